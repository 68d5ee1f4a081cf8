/- The walk of SpanSeconds: whatever is handed in, the law answers true; nothing old turns. -/
import Derived.Test.YtpjddkcoolggaabSpT
set_option linter.unusedVariables false
set_option linter.unusedSimpArgs false
namespace Go.Proofs.Ytpjddkcoolggaab
open Go.RowKit Go.Sort

namespace Sp
theorem mt_comm (x0 x1 y0 y1 : Int) : mt y0 y1 x0 x1 = mt x0 x1 y0 y1 := by
  unfold mt; rw [Bool.eq_iff_iff]; simp; omega
theorem hs_both (x0 x1 y0 y1 t : Int) : hs (bz (mt x0 x1 y0 y1) (max x0 y0)) (bz (mt x0 x1 y0 y1) (min x1 y1)) t = (hs x0 x1 t && hs y0 y1 t) := by
  cases h : mt x0 x1 y0 y1
  · unfold mt at h
    rw [decide_eq_false_iff_not] at h
    unfold bz hs; rw [Bool.eq_iff_iff]; simp; omega
  · unfold mt at h
    rw [decide_eq_true_iff] at h
    unfold bz hs; rw [Bool.eq_iff_iff]; simp; omega
theorem hs_join (x0 x1 y0 y1 t : Int) (h : jn x0 x1 y0 y1 = true) : hs (min x0 y0) (max x1 y1) t = (hs x0 x1 t || hs y0 y1 t) := by
  unfold jn mt tc at h
  rw [Bool.or_eq_true, decide_eq_true_iff, decide_eq_true_iff] at h
  unfold hs; rw [Bool.eq_iff_iff]; simp; omega
def bi (b : Bool) : Int := if b then 1 else 0
def cnt (l : List (Int × Int)) (t : Int) : Int := (l.map fun p => bi (hs p.1 p.2 t)).sum
theorem cnt_app (l k : List (Int × Int)) (t : Int) : cnt (l ++ k) t = cnt l t + cnt k t := by unfold cnt; rw [List.map_append, List.sum_append]
theorem cnt_one (x y t : Int) : cnt (one x y) t = bi (hs x y t) := by
  unfold one
  cases h : rb x y
  · unfold rb at h; rw [decide_eq_false_iff_not] at h
    have : hs x y t = false := decide_eq_false (by omega)
    rw [this]; rfl
  · show cnt [(x, y)] t = _
    unfold cnt; simp
theorem less_right {x0 x1 y0 y1 : Int} {p : Int × Int} (h : p ∈ less x0 x1 y0 y1) : rb p.1 p.2 = true := by
  have one_right : ∀ {x y : Int}, p ∈ one x y → rb p.1 p.2 = true := by
    intro x y hp
    unfold one at hp
    cases hr : rb x y
    · rw [hr] at hp; simp at hp
    · rw [hr] at hp; simp at hp; rw [hp]; exact hr
  unfold less at h
  split at h
  · rcases List.mem_append.1 h with h | h
    · exact one_right h
    · exact one_right h
  · exact one_right h
theorem bi_dec (P : Prop) [Decidable P] : bi (decide P) = if P then 1 else 0 := by unfold bi; by_cases h : P <;> simp [h]
theorem less_cnt (x0 x1 y0 y1 t : Int) : cnt (less x0 x1 y0 y1) t = bi (hs x0 x1 t && !hs y0 y1 t) := by
  have e : (hs x0 x1 t && !hs y0 y1 t) = decide ((x0 ≤ t ∧ t < x1) ∧ ¬ (y0 ≤ t ∧ t < y1)) := by
    unfold hs; rw [Bool.eq_iff_iff]; simp
  rw [e]
  unfold less
  cases h : mt x0 x1 y0 y1
  · unfold mt at h
    rw [decide_eq_false_iff_not] at h
    rw [if_neg (by decide), cnt_one]
    unfold hs
    rw [bi_dec, bi_dec]
    split <;> split <;> omega
  · unfold mt at h
    rw [decide_eq_true_iff] at h
    rw [if_pos rfl, cnt_app, cnt_one, cnt_one]
    unfold hs
    rw [bi_dec, bi_dec, bi_dec]
    split <;> split <;> split <;> omega
theorem cnt_snoc (l : List (Int × Int)) (t : Int) (k : Nat) (h : k < l.length) : cnt (l.take (k + 1)) t = cnt (l.take k) t + bi (hs l[k].1 l[k].2 t) := by
  rw [List.take_succ_eq_append_getElem h, cnt_app]
  congr 1
  unfold cnt; simp
theorem cnt_bd (l : List (Int × Int)) (t : Int) : 0 ≤ cnt l t ∧ cnt l t ≤ l.length := by
  induction l with
  | nil => unfold cnt; simp
  | cons p l ih =>
    have e : cnt (p :: l) t = bi (hs p.1 p.2 t) + cnt l t := by unfold cnt; simp
    rw [e]
    have : 0 ≤ bi (hs p.1 p.2 t) ∧ bi (hs p.1 p.2 t) ≤ 1 := by unfold bi; split <;> omega
    simp only [List.length_cons]
    omega
end Sp
theorem less_len2 (x0 x1 y0 y1 : Int) : (Sp.less x0 x1 y0 y1).length ≤ 2 := by
  have h1 : ∀ x y, (Sp.one x y).length ≤ 1 := by intro x y; unfold Sp.one; split <;> simp
  unfold Sp.less
  split
  · rw [List.length_append]; have a := h1 x0 (max x0 y0); have b := h1 (min x1 y1) x1; omega
  · have a := h1 x0 x1; omega
set_option maxHeartbeats 8000000 in
set_option maxRecDepth 100000 in
theorem ssec_true_t (x0 x1 y0 y1 t : Int) (w : World) (hi : Sp.hs x0 x1 t = true) (hm : Sp.mt x0 x1 y0 y1 = true) (hj : Sp.jn x0 x1 y0 y1 = true) :
    Calls Try.prog 11 #[.agg #[.int .i64 x0, .int .i64 x1], .agg #[.int .i64 y0, .int .i64 y1], .int .i64 t] w fun e w' => e = .returned (.bool true) ∧ Below w.heap.size w w' := by
  have HI := Lib.hid hi
  have HM := Lib.hid hm
  have HM2 := Lib.hid ((Sp.mt_comm x0 x1 y0 y1).trans hm)
  have HJ := Lib.hid hj
  have HX : Hid (Sp.hs (Sp.bz true (max x0 y0)) (Sp.bz true (min x1 y1)) t = (true && Sp.hs y0 y1 t)) := Lib.hid (by have q := Sp.hs_both x0 x1 y0 y1 t; rw [hm, hi] at q; exact q)
  have HY : Hid (true = true → Sp.hs (min x0 y0) (max x1 y1) t = (true || Sp.hs y0 y1 t)) := Lib.hid (by intro e; rw [← hi]; exact Sp.hs_join x0 x1 y0 y1 t (hj.trans e))
  have HT : Hid (true = false → Sp.tc x0 x1 y0 y1 = true) := Lib.hid (by intro e; rw [← hj]; unfold Sp.jn; rw [hm, e]; rfl)
  have HR := Lib.hid (fun p (h : p ∈ Sp.less x0 x1 y0 y1) => Sp.less_right h)
  have HC : Hid (Sp.cnt (Sp.less x0 x1 y0 y1) t = Sp.bi (true && !Sp.hs y0 y1 t)) := Lib.hid (by rw [← hi]; exact Sp.less_cnt x0 x1 y0 y1 t)
  have HL2 := Lib.hid (less_len2 x0 x1 y0 y1)
  have SL := Lib.hid (sless_any x0 x1 y0 y1)
  generalize Sp.less x0 x1 y0 y1 = l at HR HC SL HL2
  generalize ho : Sp.hs y0 y1 t = o at HX HY HC
  have HO := Lib.hid ho
  generalize hp0 : Sp.bz true (max x0 y0) = p0 at HX
  generalize hp1 : Sp.bz true (min x1 y1) = p1 at HX
  have HP0 := Lib.hid hp0
  have HP1 := Lib.hid hp1
  clear hi hm hj ho hp0 hp1
  go_enter Try.func11, Try.ntmps11
  go_wp2_with fail
  refine (lives10 _).mono ?_; rintro e w1 ⟨rfl, b1⟩
  have d1 : Below w.heap.size w w1 := below_step (by repeat (first | exact Below.refl _ _ | refine below_drewN ?_ _ | refine Below.drew ?_ | refine Below.setCell ?_ (by first | (simp; done) | (simp; omega) | omega) _ | refine Below.alloc ?_ (by first | (simp; done) | (simp; omega) | omega) _)) b1
  have B1 := Lib.hid d1
  have A1 : Bk2 w1 (w.heap.size) (.int .i64 x0) (.int .i64 x1) := Bk2.of b1 (by simp <;> omega) (by intro j; simp [go_sem]) (by simp [go_sem]) (by simp [go_sem])
  have Bb1 : Bk2 w1 (w.heap.size + 1) (.int .i64 y0) (.int .i64 y1) := Bk2.of b1 (by simp <;> omega) (by intro j; simp [go_sem]) (by simp [go_sem]) (by simp [go_sem])
  clear b1 d1
  have cA_b := A1.hb
  have cA_f := A1.fz
  have cA_0 := A1.k0
  have cA_1 := A1.k1
  have cBb_b := Bb1.hb
  have cBb_f := Bb1.fz
  have cBb_0 := Bb1.k0
  have cBb_1 := Bb1.k1
  go_wp2_with fail
  clear cA_b cA_f cA_0 cA_1 cBb_b cBb_f cBb_0 cBb_1
  have qA_0 := cell_regrown A1.k0
  have qA_1 := cell_regrown A1.k1
  have qBb_0 := cell_regrown Bb1.k0
  have qBb_1 := cell_regrown Bb1.k1
  refine wp_region_qb (w := w1) (by kernel_rfl) (by kernel_rfl) (by repeat (first | exact Below.refl _ _ | refine below_drewN ?_ _ | refine Below.drew ?_ | refine Below.setCell ?_ (by first | (simp; done) | (simp; omega) | omega) _ | refine Below.alloc ?_ (by first | (simp; done) | (simp; omega) | omega) _)) ?_
  repeat (any_goals (first | go_big_quiet_step (first | (go_at_call 48; exact Calls.regrown_of (span_has _ _ _ _))) | quiet_step (first | (go_at_call 48; exact Calls.regrown_of (span_has _ _ _ _)))))
  refine wpQuiet_nil ?_
  intro w2 hq
  have b2 : Below w1.heap.size w1 w2 := by obtain ⟨p, hq⟩ := hq; rw [hq]; exact below_regrown _ _ _
  clear hq qA_0 qA_1 qBb_0 qBb_1
  have d2 : Below w1.heap.size w1 w2 := below_step (by repeat (first | exact Below.refl _ _ | refine below_drewN ?_ _ | refine Below.drew ?_ | refine Below.setCell ?_ (by first | (simp; done) | (simp; omega) | omega) _ | refine Below.alloc ?_ (by first | (simp; done) | (simp; omega) | omega) _)) b2
  have B2 := Lib.hid (below_step B1.out d2)
  have A2 := A1.keep d2
  have Bb2 := Bb1.keep d2
  clear A1 Bb1 b2 d2 B1
  rw [HI.out, HO.out]
  have cA_b := A2.hb
  have cA_f := A2.fz
  have cA_0 := A2.k0
  have cA_1 := A2.k1
  have cBb_b := Bb2.hb
  have cBb_f := Bb2.fz
  have cBb_0 := Bb2.k0
  have cBb_1 := Bb2.k1
  go_wp2_with fail
  clear cA_b cA_f cA_0 cA_1 cBb_b cBb_f cBb_0 cBb_1
  refine (span_both x0 x1 y0 y1 _).mono ?_; rintro e w3 ⟨rfl, b3⟩
  have d3 : Below w2.heap.size w2 w3 := below_step (by repeat (first | exact Below.refl _ _ | refine below_drewN ?_ _ | refine Below.drew ?_ | refine Below.setCell ?_ (by first | (simp; done) | (simp; omega) | omega) _ | refine Below.alloc ?_ (by first | (simp; done) | (simp; omega) | omega) _)) b3
  have B3 := Lib.hid (below_step B2.out d3)
  have A3 := A2.keep d3
  have Bb3 := Bb2.keep d3
  clear A2 Bb2 b3 d3 B2
  rw [HM.out, HP0.out, HP1.out]
  have cA_b := A3.hb
  have cA_f := A3.fz
  have cA_0 := A3.k0
  have cA_1 := A3.k1
  have cBb_b := Bb3.hb
  have cBb_f := Bb3.fz
  have cBb_0 := Bb3.k0
  have cBb_1 := Bb3.k1
  go_wp2_with fail
  clear cA_b cA_f cA_0 cA_1 cBb_b cBb_f cBb_0 cBb_1
  refine (span_meet x0 x1 y0 y1 _).mono ?_; rintro e w4 ⟨rfl, b4⟩
  have d4 : Below w3.heap.size w3 w4 := below_step (by repeat (first | exact Below.refl _ _ | refine below_drewN ?_ _ | refine Below.drew ?_ | refine Below.setCell ?_ (by first | (simp; done) | (simp; omega) | omega) _ | refine Below.alloc ?_ (by first | (simp; done) | (simp; omega) | omega) _)) b4
  have B4 := Lib.hid (below_step B3.out d4)
  have A4 := A3.keep d4
  have Bb4 := Bb3.keep d4
  have aX := B3.out.size
  have nXA := Nat.ne_of_lt A3.hb
  have oXA := Nat.ne_of_gt A3.hb
  have nXBb := Nat.ne_of_lt Bb3.hb
  have oXBb := Nat.ne_of_gt Bb3.hb
  have X4 : Bk2 w4 (w3.heap.size) (.int .i64 p0) (.int .i64 p1) := Bk2.of b4 (by simp <;> omega) (by intro j; simp [go_sem]) (by simp [go_sem]) (by simp [go_sem])
  clear A3 Bb3 b4 d4 B3
  rw [HM.out]
  have cA_b := A4.hb
  have cA_f := A4.fz
  have cA_0 := A4.k0
  have cA_1 := A4.k1
  have cBb_b := Bb4.hb
  have cBb_f := Bb4.fz
  have cBb_0 := Bb4.k0
  have cBb_1 := Bb4.k1
  have cX_b := X4.hb
  have cX_f := X4.fz
  have cX_0 := X4.k0
  have cX_1 := X4.k1
  go_wp2_with fail
  clear cA_b cA_f cA_0 cA_1 cBb_b cBb_f cBb_0 cBb_1 cX_b cX_f cX_0 cX_1
  refine (span_meet y0 y1 x0 x1 _).mono ?_; rintro e w5 ⟨rfl, b5⟩
  have d5 : Below w4.heap.size w4 w5 := below_step (by repeat (first | exact Below.refl _ _ | refine below_drewN ?_ _ | refine Below.drew ?_ | refine Below.setCell ?_ (by first | (simp; done) | (simp; omega) | omega) _ | refine Below.alloc ?_ (by first | (simp; done) | (simp; omega) | omega) _)) b5
  have B5 := Lib.hid (below_step B4.out d5)
  have A5 := A4.keep d5
  have Bb5 := Bb4.keep d5
  have X5 := X4.keep d5
  clear A4 Bb4 X4 b5 d5 B4
  rw [HM2.out]
  have cA_b := A5.hb
  have cA_f := A5.fz
  have cA_0 := A5.k0
  have cA_1 := A5.k1
  have cBb_b := Bb5.hb
  have cBb_f := Bb5.fz
  have cBb_0 := Bb5.k0
  have cBb_1 := Bb5.k1
  have cX_b := X5.hb
  have cX_f := X5.fz
  have cX_0 := X5.k0
  have cX_1 := X5.k1
  go_wp2_with fail
  clear cA_b cA_f cA_0 cA_1 cBb_b cBb_f cBb_0 cBb_1 cX_b cX_f cX_0 cX_1
  refine (span_has p0 p1 t _).mono ?_; rintro e w6 ⟨rfl, b6⟩
  have d6 : Below w5.heap.size w5 w6 := below_step (by repeat (first | exact Below.refl _ _ | refine below_drewN ?_ _ | refine Below.drew ?_ | refine Below.setCell ?_ (by first | (simp; done) | (simp; omega) | omega) _ | refine Below.alloc ?_ (by first | (simp; done) | (simp; omega) | omega) _)) b6
  have B6 := Lib.hid (below_step B5.out d6)
  have A6 := A5.keep d6
  have Bb6 := Bb5.keep d6
  have X6 := X5.keep d6
  clear A5 Bb5 X5 b6 d6 B5
  rw [HX.out]
  simp only [Bool.true_and, Bool.false_and]
  clear X6 aX
  have cA_b := A6.hb
  have cA_f := A6.fz
  have cA_0 := A6.k0
  have cA_1 := A6.k1
  have cBb_b := Bb6.hb
  have cBb_f := Bb6.fz
  have cBb_0 := Bb6.k0
  have cBb_1 := Bb6.k1
  go_wp2_with fail
  clear cA_b cA_f cA_0 cA_1 cBb_b cBb_f cBb_0 cBb_1
  refine (span_join x0 x1 y0 y1 _).mono ?_; rintro e w7 ⟨rfl, b7⟩
  have d7 : Below w6.heap.size w6 w7 := below_step (by repeat (first | exact Below.refl _ _ | refine below_drewN ?_ _ | refine Below.drew ?_ | refine Below.setCell ?_ (by first | (simp; done) | (simp; omega) | omega) _ | refine Below.alloc ?_ (by first | (simp; done) | (simp; omega) | omega) _)) b7
  have B7 := Lib.hid (below_step B6.out d7)
  have A7 := A6.keep d7
  have Bb7 := Bb6.keep d7
  clear A6 Bb6 b7 d7 B6
  rw [HJ.out]
  simp only [Sp.bz, if_true]
  have cA_b := A7.hb
  have cA_f := A7.fz
  have cA_0 := A7.k0
  have cA_1 := A7.k1
  have cBb_b := Bb7.hb
  have cBb_f := Bb7.fz
  have cBb_0 := Bb7.k0
  have cBb_1 := Bb7.k1
  go_wp2_with fail
  clear cA_b cA_f cA_0 cA_1 cBb_b cBb_f cBb_0 cBb_1
  refine (span_meet x0 x1 y0 y1 _).mono ?_; rintro e w8 ⟨rfl, b8⟩
  have d8 : Below w7.heap.size w7 w8 := below_step (by repeat (first | exact Below.refl _ _ | refine below_drewN ?_ _ | refine Below.drew ?_ | refine Below.setCell ?_ (by first | (simp; done) | (simp; omega) | omega) _ | refine Below.alloc ?_ (by first | (simp; done) | (simp; omega) | omega) _)) b8
  have B8 := Lib.hid (below_step B7.out d8)
  have A8 := A7.keep d8
  have Bb8 := Bb7.keep d8
  have aY := B7.out.size
  have nYA := Nat.ne_of_lt A7.hb
  have oYA := Nat.ne_of_gt A7.hb
  have nYBb := Nat.ne_of_lt Bb7.hb
  have oYBb := Nat.ne_of_gt Bb7.hb
  have Y8 : Bk2 w8 (w7.heap.size) (.int .i64 (min x0 y0)) (.int .i64 (max x1 y1)) := Bk2.of b8 (by simp <;> omega) (by intro j; simp [go_sem]) (by simp [go_sem]) (by simp [go_sem])
  clear A7 Bb7 b8 d8 B7
  rw [HM.out]
  skip
  skip
  have cA_b := A8.hb
  have cA_f := A8.fz
  have cA_0 := A8.k0
  have cA_1 := A8.k1
  have cBb_b := Bb8.hb
  have cBb_f := Bb8.fz
  have cBb_0 := Bb8.k0
  have cBb_1 := Bb8.k1
  have cY_b := Y8.hb
  have cY_f := Y8.fz
  have cY_0 := Y8.k0
  have cY_1 := Y8.k1
  go_wp2_with fail
  clear cA_b cA_f cA_0 cA_1 cBb_b cBb_f cBb_0 cBb_1 cY_b cY_f cY_0 cY_1
  refine (span_has (min x0 y0) (max x1 y1) t _).mono ?_; rintro e w9 ⟨rfl, b9⟩
  have d9 : Below w8.heap.size w8 w9 := below_step (by repeat (first | exact Below.refl _ _ | refine below_drewN ?_ _ | refine Below.drew ?_ | refine Below.setCell ?_ (by first | (simp; done) | (simp; omega) | omega) _ | refine Below.alloc ?_ (by first | (simp; done) | (simp; omega) | omega) _)) b9
  have B9 := Lib.hid (below_step B8.out d9)
  have A9 := A8.keep d9
  have Bb9 := Bb8.keep d9
  have Y9 := Y8.keep d9
  clear A8 Bb8 Y8 b9 d9 B8
  rw [HY.out trivial]
  have cA_b := A9.hb
  have cA_f := A9.fz
  have cA_0 := A9.k0
  have cA_1 := A9.k1
  have cBb_b := Bb9.hb
  have cBb_f := Bb9.fz
  have cBb_0 := Bb9.k0
  have cBb_1 := Bb9.k1
  have cY_b := Y9.hb
  have cY_f := Y9.fz
  have cY_0 := Y9.k0
  have cY_1 := Y9.k1
  go_wp2_with fail
  clear cA_b cA_f cA_0 cA_1 cBb_b cBb_f cBb_0 cBb_1 cY_b cY_f cY_0 cY_1
  refine (SL.out _).mono ?_; rintro e w10 ⟨_, sp, rfl, b10⟩
  have Sp_10 := Lib.hid sp; obtain ⟨Ap, cp, rfl, -⟩ := sp
  have d10 : Below w9.heap.size w9 w10 := below_step (by repeat (first | exact Below.refl _ _ | refine below_drewN ?_ _ | refine Below.drew ?_ | refine Below.setCell ?_ (by first | (simp; done) | (simp; omega) | omega) _ | refine Below.alloc ?_ (by first | (simp; done) | (simp; omega) | omega) _)) b10
  have B10 := Lib.hid (below_step B9.out d10)
  have A10 := A9.keep d10
  have Bb10 := Bb9.keep d10
  have Y10 := Y9.keep d10
  clear A9 Bb9 Y9 b10 d10 B9
  clear A10
  clear Bb10
  clear Y10 aY
  have hl2 := HL2.out
  go_wp2_with fail
  have BW := Lib.hid B10.out
  go_loopw [13, 85] (fun c i wr => ∃ k : Nat, k ≤ l.length ∧ i = .int .i64 k ∧ c = .int .i64 (Sp.cnt (l.take k) t) ∧ Below w.heap.size w wr ∧ SpV wr (.slice Ap l.length cp) l) (fun _ i _ => l.length - (intOf i).toNat)
  case atStart => exact ⟨0, Nat.zero_le _, rfl, by simp [Sp.cnt], BW.out, Sp_10.out⟩
  case round =>
    obtain ⟨k, hk, rfl, rfl, hb, hs⟩ := hrel
    have HB := Lib.hid hb
    have HS := Lib.hid hs
    clear hb hs
    by_cases hlt : k < l.length
    · obtain ⟨a, rfl, -, g1, g2⟩ := HS.out.get k hlt
      have SN := Lib.hid (Sp.cnt_snoc l t k hlt)
      have RB := Lib.hid (HR.out l[k] (List.getElem_mem hlt))
      generalize l[k].1 = u at *
      generalize l[k].2 = v at *
      have cb := Sp.cnt_bd (l.take k) t
      have cl : (l.take k).length ≤ 2 := Nat.le_trans (List.length_take_le _ _) (by omega)
      generalize hc : Sp.cnt (l.take k) t = c at *
      have c0 : 0 ≤ c := cb.1
      have c1 : c ≤ 2 := by omega
      clear cb cl hc
      have i0 : (0 : Int) ≤ k := by omega
      have i1 : (k : Int) < l.length := by omega
      cases hh : Sp.hs u v t
      all_goals
        have HH := Lib.hid hh
        rw [hh] at SN
        clear hh
        go_wp2_with fail
        refine (span_right u v _).mono ?_; rintro e v1 ⟨rfl, b1⟩
        rw [RB.out]
        have D1 : Below wr.heap.size wr v1 := below_step (by repeat (first | exact Below.refl _ _ | refine Below.setCell ?_ (by first | (simp; done) | (simp; omega)) _ | refine Below.alloc ?_ (by first | (simp; done) | (simp; omega)) _)) b1
        have Q1 : Bk2 v1 wr.heap.size (.int .i64 u) (.int .i64 v) := Bk2.of b1 (by simp <;> omega) (by intro j; simp [go_sem]) (by simp [go_sem]) (by simp [go_sem])
        have DD1 := Lib.hid D1
        clear b1 D1
        have q0 := Q1.k0; have q1 := Q1.k1
        clear Q1
        go_wp2_with fail
        refine (span_has u v t _).mono ?_; rintro e v2 ⟨rfl, b2⟩
        rw [HH.out]
        have DD2 := Lib.hid (below_step DD1.out b2)
        clear q0 q1 b2 DD1
        go_wp2
        go_roundw
        case rel => exact ⟨k + 1, by omega, by go_num, by rw [SN.out]; first | rfl | (simp [Sp.bi]), below_step HB.out DD2.out, HS.out.on DD2.out⟩
        case measure => simp [intOf]; omega
    · have hkk : k = l.length := by omega
      have e : Sp.cnt (l.take k) t = Sp.bi (true && !o) := by rw [hkk, List.take_length]; exact HC.out
      rw [e]
      clear e
      cases o
      all_goals
        simp only [Sp.bi, Bool.and_true, Bool.and_false, Bool.not_false, Bool.not_true, Bool.true_and, Bool.false_and, if_true, Bool.false_eq_true, if_false]
        go_wp2
        go_ret
        exact ⟨rfl, HB.out⟩
set_option maxHeartbeats 8000000 in
set_option maxRecDepth 100000 in
theorem ssec_true_fc (x0 x1 y0 y1 t : Int) (w : World) (hi : Sp.hs x0 x1 t = true) (hm : Sp.mt x0 x1 y0 y1 = false) (hj : Sp.jn x0 x1 y0 y1 = true) :
    Calls Try.prog 11 #[.agg #[.int .i64 x0, .int .i64 x1], .agg #[.int .i64 y0, .int .i64 y1], .int .i64 t] w fun e w' => e = .returned (.bool true) ∧ Below w.heap.size w w' := by
  have HI := Lib.hid hi
  have HM := Lib.hid hm
  have HM2 := Lib.hid ((Sp.mt_comm x0 x1 y0 y1).trans hm)
  have HJ := Lib.hid hj
  have HX : Hid (Sp.hs (Sp.bz false (max x0 y0)) (Sp.bz false (min x1 y1)) t = (true && Sp.hs y0 y1 t)) := Lib.hid (by have q := Sp.hs_both x0 x1 y0 y1 t; rw [hm, hi] at q; exact q)
  have HY : Hid (true = true → Sp.hs (min x0 y0) (max x1 y1) t = (true || Sp.hs y0 y1 t)) := Lib.hid (by intro e; rw [← hi]; exact Sp.hs_join x0 x1 y0 y1 t (hj.trans e))
  have HT : Hid (false = false → Sp.tc x0 x1 y0 y1 = true) := Lib.hid (by intro e; rw [← hj]; unfold Sp.jn; rw [hm, e]; rfl)
  have HR := Lib.hid (fun p (h : p ∈ Sp.less x0 x1 y0 y1) => Sp.less_right h)
  have HC : Hid (Sp.cnt (Sp.less x0 x1 y0 y1) t = Sp.bi (true && !Sp.hs y0 y1 t)) := Lib.hid (by rw [← hi]; exact Sp.less_cnt x0 x1 y0 y1 t)
  have HL2 := Lib.hid (less_len2 x0 x1 y0 y1)
  have SL := Lib.hid (sless_any x0 x1 y0 y1)
  generalize Sp.less x0 x1 y0 y1 = l at HR HC SL HL2
  generalize ho : Sp.hs y0 y1 t = o at HX HY HC
  have HO := Lib.hid ho
  generalize hp0 : Sp.bz false (max x0 y0) = p0 at HX
  generalize hp1 : Sp.bz false (min x1 y1) = p1 at HX
  have HP0 := Lib.hid hp0
  have HP1 := Lib.hid hp1
  clear hi hm hj ho hp0 hp1
  go_enter Try.func11, Try.ntmps11
  go_wp2_with fail
  refine (lives10 _).mono ?_; rintro e w1 ⟨rfl, b1⟩
  have d1 : Below w.heap.size w w1 := below_step (by repeat (first | exact Below.refl _ _ | refine below_drewN ?_ _ | refine Below.drew ?_ | refine Below.setCell ?_ (by first | (simp; done) | (simp; omega) | omega) _ | refine Below.alloc ?_ (by first | (simp; done) | (simp; omega) | omega) _)) b1
  have B1 := Lib.hid d1
  have A1 : Bk2 w1 (w.heap.size) (.int .i64 x0) (.int .i64 x1) := Bk2.of b1 (by simp <;> omega) (by intro j; simp [go_sem]) (by simp [go_sem]) (by simp [go_sem])
  have Bb1 : Bk2 w1 (w.heap.size + 1) (.int .i64 y0) (.int .i64 y1) := Bk2.of b1 (by simp <;> omega) (by intro j; simp [go_sem]) (by simp [go_sem]) (by simp [go_sem])
  clear b1 d1
  have cA_b := A1.hb
  have cA_f := A1.fz
  have cA_0 := A1.k0
  have cA_1 := A1.k1
  have cBb_b := Bb1.hb
  have cBb_f := Bb1.fz
  have cBb_0 := Bb1.k0
  have cBb_1 := Bb1.k1
  go_wp2_with fail
  clear cA_b cA_f cA_0 cA_1 cBb_b cBb_f cBb_0 cBb_1
  have qA_0 := cell_regrown A1.k0
  have qA_1 := cell_regrown A1.k1
  have qBb_0 := cell_regrown Bb1.k0
  have qBb_1 := cell_regrown Bb1.k1
  refine wp_region_qb (w := w1) (by kernel_rfl) (by kernel_rfl) (by repeat (first | exact Below.refl _ _ | refine below_drewN ?_ _ | refine Below.drew ?_ | refine Below.setCell ?_ (by first | (simp; done) | (simp; omega) | omega) _ | refine Below.alloc ?_ (by first | (simp; done) | (simp; omega) | omega) _)) ?_
  repeat (any_goals (first | go_big_quiet_step (first | (go_at_call 48; exact Calls.regrown_of (span_has _ _ _ _))) | quiet_step (first | (go_at_call 48; exact Calls.regrown_of (span_has _ _ _ _)))))
  refine wpQuiet_nil ?_
  intro w2 hq
  have b2 : Below w1.heap.size w1 w2 := by obtain ⟨p, hq⟩ := hq; rw [hq]; exact below_regrown _ _ _
  clear hq qA_0 qA_1 qBb_0 qBb_1
  have d2 : Below w1.heap.size w1 w2 := below_step (by repeat (first | exact Below.refl _ _ | refine below_drewN ?_ _ | refine Below.drew ?_ | refine Below.setCell ?_ (by first | (simp; done) | (simp; omega) | omega) _ | refine Below.alloc ?_ (by first | (simp; done) | (simp; omega) | omega) _)) b2
  have B2 := Lib.hid (below_step B1.out d2)
  have A2 := A1.keep d2
  have Bb2 := Bb1.keep d2
  clear A1 Bb1 b2 d2 B1
  rw [HI.out, HO.out]
  have cA_b := A2.hb
  have cA_f := A2.fz
  have cA_0 := A2.k0
  have cA_1 := A2.k1
  have cBb_b := Bb2.hb
  have cBb_f := Bb2.fz
  have cBb_0 := Bb2.k0
  have cBb_1 := Bb2.k1
  go_wp2_with fail
  clear cA_b cA_f cA_0 cA_1 cBb_b cBb_f cBb_0 cBb_1
  refine (span_both x0 x1 y0 y1 _).mono ?_; rintro e w3 ⟨rfl, b3⟩
  have d3 : Below w2.heap.size w2 w3 := below_step (by repeat (first | exact Below.refl _ _ | refine below_drewN ?_ _ | refine Below.drew ?_ | refine Below.setCell ?_ (by first | (simp; done) | (simp; omega) | omega) _ | refine Below.alloc ?_ (by first | (simp; done) | (simp; omega) | omega) _)) b3
  have B3 := Lib.hid (below_step B2.out d3)
  have A3 := A2.keep d3
  have Bb3 := Bb2.keep d3
  clear A2 Bb2 b3 d3 B2
  rw [HM.out, HP0.out, HP1.out]
  have cA_b := A3.hb
  have cA_f := A3.fz
  have cA_0 := A3.k0
  have cA_1 := A3.k1
  have cBb_b := Bb3.hb
  have cBb_f := Bb3.fz
  have cBb_0 := Bb3.k0
  have cBb_1 := Bb3.k1
  go_wp2_with fail
  clear cA_b cA_f cA_0 cA_1 cBb_b cBb_f cBb_0 cBb_1
  refine (span_meet x0 x1 y0 y1 _).mono ?_; rintro e w4 ⟨rfl, b4⟩
  have d4 : Below w3.heap.size w3 w4 := below_step (by repeat (first | exact Below.refl _ _ | refine below_drewN ?_ _ | refine Below.drew ?_ | refine Below.setCell ?_ (by first | (simp; done) | (simp; omega) | omega) _ | refine Below.alloc ?_ (by first | (simp; done) | (simp; omega) | omega) _)) b4
  have B4 := Lib.hid (below_step B3.out d4)
  have A4 := A3.keep d4
  have Bb4 := Bb3.keep d4
  have aX := B3.out.size
  have nXA := Nat.ne_of_lt A3.hb
  have oXA := Nat.ne_of_gt A3.hb
  have nXBb := Nat.ne_of_lt Bb3.hb
  have oXBb := Nat.ne_of_gt Bb3.hb
  have X4 : Bk2 w4 (w3.heap.size) (.int .i64 p0) (.int .i64 p1) := Bk2.of b4 (by simp <;> omega) (by intro j; simp [go_sem]) (by simp [go_sem]) (by simp [go_sem])
  clear A3 Bb3 b4 d4 B3
  rw [HM.out]
  have cA_b := A4.hb
  have cA_f := A4.fz
  have cA_0 := A4.k0
  have cA_1 := A4.k1
  have cBb_b := Bb4.hb
  have cBb_f := Bb4.fz
  have cBb_0 := Bb4.k0
  have cBb_1 := Bb4.k1
  have cX_b := X4.hb
  have cX_f := X4.fz
  have cX_0 := X4.k0
  have cX_1 := X4.k1
  go_wp2_with fail
  clear cA_b cA_f cA_0 cA_1 cBb_b cBb_f cBb_0 cBb_1 cX_b cX_f cX_0 cX_1
  refine (span_meet y0 y1 x0 x1 _).mono ?_; rintro e w5 ⟨rfl, b5⟩
  have d5 : Below w4.heap.size w4 w5 := below_step (by repeat (first | exact Below.refl _ _ | refine below_drewN ?_ _ | refine Below.drew ?_ | refine Below.setCell ?_ (by first | (simp; done) | (simp; omega) | omega) _ | refine Below.alloc ?_ (by first | (simp; done) | (simp; omega) | omega) _)) b5
  have B5 := Lib.hid (below_step B4.out d5)
  have A5 := A4.keep d5
  have Bb5 := Bb4.keep d5
  have X5 := X4.keep d5
  clear A4 Bb4 X4 b5 d5 B4
  rw [HM2.out]
  have cA_b := A5.hb
  have cA_f := A5.fz
  have cA_0 := A5.k0
  have cA_1 := A5.k1
  have cBb_b := Bb5.hb
  have cBb_f := Bb5.fz
  have cBb_0 := Bb5.k0
  have cBb_1 := Bb5.k1
  have cX_b := X5.hb
  have cX_f := X5.fz
  have cX_0 := X5.k0
  have cX_1 := X5.k1
  go_wp2_with fail
  clear cA_b cA_f cA_0 cA_1 cBb_b cBb_f cBb_0 cBb_1 cX_b cX_f cX_0 cX_1
  refine (span_has p0 p1 t _).mono ?_; rintro e w6 ⟨rfl, b6⟩
  have d6 : Below w5.heap.size w5 w6 := below_step (by repeat (first | exact Below.refl _ _ | refine below_drewN ?_ _ | refine Below.drew ?_ | refine Below.setCell ?_ (by first | (simp; done) | (simp; omega) | omega) _ | refine Below.alloc ?_ (by first | (simp; done) | (simp; omega) | omega) _)) b6
  have B6 := Lib.hid (below_step B5.out d6)
  have A6 := A5.keep d6
  have Bb6 := Bb5.keep d6
  have X6 := X5.keep d6
  clear A5 Bb5 X5 b6 d6 B5
  rw [HX.out]
  simp only [Bool.true_and, Bool.false_and]
  clear X6 aX
  have cA_b := A6.hb
  have cA_f := A6.fz
  have cA_0 := A6.k0
  have cA_1 := A6.k1
  have cBb_b := Bb6.hb
  have cBb_f := Bb6.fz
  have cBb_0 := Bb6.k0
  have cBb_1 := Bb6.k1
  go_wp2_with fail
  clear cA_b cA_f cA_0 cA_1 cBb_b cBb_f cBb_0 cBb_1
  refine (span_join x0 x1 y0 y1 _).mono ?_; rintro e w7 ⟨rfl, b7⟩
  have d7 : Below w6.heap.size w6 w7 := below_step (by repeat (first | exact Below.refl _ _ | refine below_drewN ?_ _ | refine Below.drew ?_ | refine Below.setCell ?_ (by first | (simp; done) | (simp; omega) | omega) _ | refine Below.alloc ?_ (by first | (simp; done) | (simp; omega) | omega) _)) b7
  have B7 := Lib.hid (below_step B6.out d7)
  have A7 := A6.keep d7
  have Bb7 := Bb6.keep d7
  clear A6 Bb6 b7 d7 B6
  rw [HJ.out]
  simp only [Sp.bz, if_true]
  have cA_b := A7.hb
  have cA_f := A7.fz
  have cA_0 := A7.k0
  have cA_1 := A7.k1
  have cBb_b := Bb7.hb
  have cBb_f := Bb7.fz
  have cBb_0 := Bb7.k0
  have cBb_1 := Bb7.k1
  go_wp2_with fail
  clear cA_b cA_f cA_0 cA_1 cBb_b cBb_f cBb_0 cBb_1
  refine (span_meet x0 x1 y0 y1 _).mono ?_; rintro e w8 ⟨rfl, b8⟩
  have d8 : Below w7.heap.size w7 w8 := below_step (by repeat (first | exact Below.refl _ _ | refine below_drewN ?_ _ | refine Below.drew ?_ | refine Below.setCell ?_ (by first | (simp; done) | (simp; omega) | omega) _ | refine Below.alloc ?_ (by first | (simp; done) | (simp; omega) | omega) _)) b8
  have B8 := Lib.hid (below_step B7.out d8)
  have A8 := A7.keep d8
  have Bb8 := Bb7.keep d8
  have aY := B7.out.size
  have nYA := Nat.ne_of_lt A7.hb
  have oYA := Nat.ne_of_gt A7.hb
  have nYBb := Nat.ne_of_lt Bb7.hb
  have oYBb := Nat.ne_of_gt Bb7.hb
  have Y8 : Bk2 w8 (w7.heap.size) (.int .i64 (min x0 y0)) (.int .i64 (max x1 y1)) := Bk2.of b8 (by simp <;> omega) (by intro j; simp [go_sem]) (by simp [go_sem]) (by simp [go_sem])
  clear A7 Bb7 b8 d8 B7
  rw [HM.out]
  have cA_b := A8.hb
  have cA_f := A8.fz
  have cA_0 := A8.k0
  have cA_1 := A8.k1
  have cBb_b := Bb8.hb
  have cBb_f := Bb8.fz
  have cBb_0 := Bb8.k0
  have cBb_1 := Bb8.k1
  have cY_b := Y8.hb
  have cY_f := Y8.fz
  have cY_0 := Y8.k0
  have cY_1 := Y8.k1
  go_wp2_with fail
  clear cA_b cA_f cA_0 cA_1 cBb_b cBb_f cBb_0 cBb_1 cY_b cY_f cY_0 cY_1
  refine (span_touch x0 x1 y0 y1 _).mono ?_; rintro e w9 ⟨rfl, b9⟩
  have d9 : Below w8.heap.size w8 w9 := below_step (by repeat (first | exact Below.refl _ _ | refine below_drewN ?_ _ | refine Below.drew ?_ | refine Below.setCell ?_ (by first | (simp; done) | (simp; omega) | omega) _ | refine Below.alloc ?_ (by first | (simp; done) | (simp; omega) | omega) _)) b9
  have B9 := Lib.hid (below_step B8.out d9)
  have A9 := A8.keep d9
  have Bb9 := Bb8.keep d9
  have Y9 := Y8.keep d9
  clear A8 Bb8 Y8 b9 d9 B8
  rw [HT.out trivial]
  have cA_b := A9.hb
  have cA_f := A9.fz
  have cA_0 := A9.k0
  have cA_1 := A9.k1
  have cBb_b := Bb9.hb
  have cBb_f := Bb9.fz
  have cBb_0 := Bb9.k0
  have cBb_1 := Bb9.k1
  have cY_b := Y9.hb
  have cY_f := Y9.fz
  have cY_0 := Y9.k0
  have cY_1 := Y9.k1
  go_wp2_with fail
  clear cA_b cA_f cA_0 cA_1 cBb_b cBb_f cBb_0 cBb_1 cY_b cY_f cY_0 cY_1
  refine (span_has (min x0 y0) (max x1 y1) t _).mono ?_; rintro e w10 ⟨rfl, b10⟩
  have d10 : Below w9.heap.size w9 w10 := below_step (by repeat (first | exact Below.refl _ _ | refine below_drewN ?_ _ | refine Below.drew ?_ | refine Below.setCell ?_ (by first | (simp; done) | (simp; omega) | omega) _ | refine Below.alloc ?_ (by first | (simp; done) | (simp; omega) | omega) _)) b10
  have B10 := Lib.hid (below_step B9.out d10)
  have A10 := A9.keep d10
  have Bb10 := Bb9.keep d10
  have Y10 := Y9.keep d10
  clear A9 Bb9 Y9 b10 d10 B9
  rw [HY.out trivial]
  have cA_b := A10.hb
  have cA_f := A10.fz
  have cA_0 := A10.k0
  have cA_1 := A10.k1
  have cBb_b := Bb10.hb
  have cBb_f := Bb10.fz
  have cBb_0 := Bb10.k0
  have cBb_1 := Bb10.k1
  have cY_b := Y10.hb
  have cY_f := Y10.fz
  have cY_0 := Y10.k0
  have cY_1 := Y10.k1
  go_wp2_with fail
  clear cA_b cA_f cA_0 cA_1 cBb_b cBb_f cBb_0 cBb_1 cY_b cY_f cY_0 cY_1
  refine (SL.out _).mono ?_; rintro e w11 ⟨_, sp, rfl, b11⟩
  have Sp_11 := Lib.hid sp; obtain ⟨Ap, cp, rfl, -⟩ := sp
  have d11 : Below w10.heap.size w10 w11 := below_step (by repeat (first | exact Below.refl _ _ | refine below_drewN ?_ _ | refine Below.drew ?_ | refine Below.setCell ?_ (by first | (simp; done) | (simp; omega) | omega) _ | refine Below.alloc ?_ (by first | (simp; done) | (simp; omega) | omega) _)) b11
  have B11 := Lib.hid (below_step B10.out d11)
  have A11 := A10.keep d11
  have Bb11 := Bb10.keep d11
  have Y11 := Y10.keep d11
  clear A10 Bb10 Y10 b11 d11 B10
  clear A11
  clear Bb11
  clear Y11 aY
  have hl2 := HL2.out
  go_wp2_with fail
  have BW := Lib.hid B11.out
  go_loopw [13, 85] (fun c i wr => ∃ k : Nat, k ≤ l.length ∧ i = .int .i64 k ∧ c = .int .i64 (Sp.cnt (l.take k) t) ∧ Below w.heap.size w wr ∧ SpV wr (.slice Ap l.length cp) l) (fun _ i _ => l.length - (intOf i).toNat)
  case atStart => exact ⟨0, Nat.zero_le _, rfl, by simp [Sp.cnt], BW.out, Sp_11.out⟩
  case round =>
    obtain ⟨k, hk, rfl, rfl, hb, hs⟩ := hrel
    have HB := Lib.hid hb
    have HS := Lib.hid hs
    clear hb hs
    by_cases hlt : k < l.length
    · obtain ⟨a, rfl, -, g1, g2⟩ := HS.out.get k hlt
      have SN := Lib.hid (Sp.cnt_snoc l t k hlt)
      have RB := Lib.hid (HR.out l[k] (List.getElem_mem hlt))
      generalize l[k].1 = u at *
      generalize l[k].2 = v at *
      have cb := Sp.cnt_bd (l.take k) t
      have cl : (l.take k).length ≤ 2 := Nat.le_trans (List.length_take_le _ _) (by omega)
      generalize hc : Sp.cnt (l.take k) t = c at *
      have c0 : 0 ≤ c := cb.1
      have c1 : c ≤ 2 := by omega
      clear cb cl hc
      have i0 : (0 : Int) ≤ k := by omega
      have i1 : (k : Int) < l.length := by omega
      cases hh : Sp.hs u v t
      all_goals
        have HH := Lib.hid hh
        rw [hh] at SN
        clear hh
        go_wp2_with fail
        refine (span_right u v _).mono ?_; rintro e v1 ⟨rfl, b1⟩
        rw [RB.out]
        have D1 : Below wr.heap.size wr v1 := below_step (by repeat (first | exact Below.refl _ _ | refine Below.setCell ?_ (by first | (simp; done) | (simp; omega)) _ | refine Below.alloc ?_ (by first | (simp; done) | (simp; omega)) _)) b1
        have Q1 : Bk2 v1 wr.heap.size (.int .i64 u) (.int .i64 v) := Bk2.of b1 (by simp <;> omega) (by intro j; simp [go_sem]) (by simp [go_sem]) (by simp [go_sem])
        have DD1 := Lib.hid D1
        clear b1 D1
        have q0 := Q1.k0; have q1 := Q1.k1
        clear Q1
        go_wp2_with fail
        refine (span_has u v t _).mono ?_; rintro e v2 ⟨rfl, b2⟩
        rw [HH.out]
        have DD2 := Lib.hid (below_step DD1.out b2)
        clear q0 q1 b2 DD1
        go_wp2
        go_roundw
        case rel => exact ⟨k + 1, by omega, by go_num, by rw [SN.out]; first | rfl | (simp [Sp.bi]), below_step HB.out DD2.out, HS.out.on DD2.out⟩
        case measure => simp [intOf]; omega
    · have hkk : k = l.length := by omega
      have e : Sp.cnt (l.take k) t = Sp.bi (true && !o) := by rw [hkk, List.take_length]; exact HC.out
      rw [e]
      clear e
      cases o
      all_goals
        simp only [Sp.bi, Bool.and_true, Bool.and_false, Bool.not_false, Bool.not_true, Bool.true_and, Bool.false_and, if_true, Bool.false_eq_true, if_false]
        go_wp2
        go_ret
        exact ⟨rfl, HB.out⟩
set_option maxHeartbeats 8000000 in
set_option maxRecDepth 100000 in
theorem ssec_true_ff (x0 x1 y0 y1 t : Int) (w : World) (hi : Sp.hs x0 x1 t = true) (hm : Sp.mt x0 x1 y0 y1 = false) (hj : Sp.jn x0 x1 y0 y1 = false) :
    Calls Try.prog 11 #[.agg #[.int .i64 x0, .int .i64 x1], .agg #[.int .i64 y0, .int .i64 y1], .int .i64 t] w fun e w' => e = .returned (.bool true) ∧ Below w.heap.size w w' := by
  have HI := Lib.hid hi
  have HM := Lib.hid hm
  have HM2 := Lib.hid ((Sp.mt_comm x0 x1 y0 y1).trans hm)
  have HJ := Lib.hid hj
  have HX : Hid (Sp.hs (Sp.bz false (max x0 y0)) (Sp.bz false (min x1 y1)) t = (true && Sp.hs y0 y1 t)) := Lib.hid (by have q := Sp.hs_both x0 x1 y0 y1 t; rw [hm, hi] at q; exact q)
  have HY : Hid (false = true → Sp.hs (min x0 y0) (max x1 y1) t = (true || Sp.hs y0 y1 t)) := Lib.hid (by intro e; rw [← hi]; exact Sp.hs_join x0 x1 y0 y1 t (hj.trans e))
  have HT : Hid (false = false → Sp.tc x0 x1 y0 y1 = false) := Lib.hid (by intro e; rw [← hj]; unfold Sp.jn; rw [hm, e]; rfl)
  have HR := Lib.hid (fun p (h : p ∈ Sp.less x0 x1 y0 y1) => Sp.less_right h)
  have HC : Hid (Sp.cnt (Sp.less x0 x1 y0 y1) t = Sp.bi (true && !Sp.hs y0 y1 t)) := Lib.hid (by rw [← hi]; exact Sp.less_cnt x0 x1 y0 y1 t)
  have HL2 := Lib.hid (less_len2 x0 x1 y0 y1)
  have SL := Lib.hid (sless_any x0 x1 y0 y1)
  generalize Sp.less x0 x1 y0 y1 = l at HR HC SL HL2
  generalize ho : Sp.hs y0 y1 t = o at HX HY HC
  have HO := Lib.hid ho
  generalize hp0 : Sp.bz false (max x0 y0) = p0 at HX
  generalize hp1 : Sp.bz false (min x1 y1) = p1 at HX
  have HP0 := Lib.hid hp0
  have HP1 := Lib.hid hp1
  clear hi hm hj ho hp0 hp1
  go_enter Try.func11, Try.ntmps11
  go_wp2_with fail
  refine (lives10 _).mono ?_; rintro e w1 ⟨rfl, b1⟩
  have d1 : Below w.heap.size w w1 := below_step (by repeat (first | exact Below.refl _ _ | refine below_drewN ?_ _ | refine Below.drew ?_ | refine Below.setCell ?_ (by first | (simp; done) | (simp; omega) | omega) _ | refine Below.alloc ?_ (by first | (simp; done) | (simp; omega) | omega) _)) b1
  have B1 := Lib.hid d1
  have A1 : Bk2 w1 (w.heap.size) (.int .i64 x0) (.int .i64 x1) := Bk2.of b1 (by simp <;> omega) (by intro j; simp [go_sem]) (by simp [go_sem]) (by simp [go_sem])
  have Bb1 : Bk2 w1 (w.heap.size + 1) (.int .i64 y0) (.int .i64 y1) := Bk2.of b1 (by simp <;> omega) (by intro j; simp [go_sem]) (by simp [go_sem]) (by simp [go_sem])
  clear b1 d1
  have cA_b := A1.hb
  have cA_f := A1.fz
  have cA_0 := A1.k0
  have cA_1 := A1.k1
  have cBb_b := Bb1.hb
  have cBb_f := Bb1.fz
  have cBb_0 := Bb1.k0
  have cBb_1 := Bb1.k1
  go_wp2_with fail
  clear cA_b cA_f cA_0 cA_1 cBb_b cBb_f cBb_0 cBb_1
  have qA_0 := cell_regrown A1.k0
  have qA_1 := cell_regrown A1.k1
  have qBb_0 := cell_regrown Bb1.k0
  have qBb_1 := cell_regrown Bb1.k1
  refine wp_region_qb (w := w1) (by kernel_rfl) (by kernel_rfl) (by repeat (first | exact Below.refl _ _ | refine below_drewN ?_ _ | refine Below.drew ?_ | refine Below.setCell ?_ (by first | (simp; done) | (simp; omega) | omega) _ | refine Below.alloc ?_ (by first | (simp; done) | (simp; omega) | omega) _)) ?_
  repeat (any_goals (first | go_big_quiet_step (first | (go_at_call 48; exact Calls.regrown_of (span_has _ _ _ _))) | quiet_step (first | (go_at_call 48; exact Calls.regrown_of (span_has _ _ _ _)))))
  refine wpQuiet_nil ?_
  intro w2 hq
  have b2 : Below w1.heap.size w1 w2 := by obtain ⟨p, hq⟩ := hq; rw [hq]; exact below_regrown _ _ _
  clear hq qA_0 qA_1 qBb_0 qBb_1
  have d2 : Below w1.heap.size w1 w2 := below_step (by repeat (first | exact Below.refl _ _ | refine below_drewN ?_ _ | refine Below.drew ?_ | refine Below.setCell ?_ (by first | (simp; done) | (simp; omega) | omega) _ | refine Below.alloc ?_ (by first | (simp; done) | (simp; omega) | omega) _)) b2
  have B2 := Lib.hid (below_step B1.out d2)
  have A2 := A1.keep d2
  have Bb2 := Bb1.keep d2
  clear A1 Bb1 b2 d2 B1
  rw [HI.out, HO.out]
  have cA_b := A2.hb
  have cA_f := A2.fz
  have cA_0 := A2.k0
  have cA_1 := A2.k1
  have cBb_b := Bb2.hb
  have cBb_f := Bb2.fz
  have cBb_0 := Bb2.k0
  have cBb_1 := Bb2.k1
  go_wp2_with fail
  clear cA_b cA_f cA_0 cA_1 cBb_b cBb_f cBb_0 cBb_1
  refine (span_both x0 x1 y0 y1 _).mono ?_; rintro e w3 ⟨rfl, b3⟩
  have d3 : Below w2.heap.size w2 w3 := below_step (by repeat (first | exact Below.refl _ _ | refine below_drewN ?_ _ | refine Below.drew ?_ | refine Below.setCell ?_ (by first | (simp; done) | (simp; omega) | omega) _ | refine Below.alloc ?_ (by first | (simp; done) | (simp; omega) | omega) _)) b3
  have B3 := Lib.hid (below_step B2.out d3)
  have A3 := A2.keep d3
  have Bb3 := Bb2.keep d3
  clear A2 Bb2 b3 d3 B2
  rw [HM.out, HP0.out, HP1.out]
  have cA_b := A3.hb
  have cA_f := A3.fz
  have cA_0 := A3.k0
  have cA_1 := A3.k1
  have cBb_b := Bb3.hb
  have cBb_f := Bb3.fz
  have cBb_0 := Bb3.k0
  have cBb_1 := Bb3.k1
  go_wp2_with fail
  clear cA_b cA_f cA_0 cA_1 cBb_b cBb_f cBb_0 cBb_1
  refine (span_meet x0 x1 y0 y1 _).mono ?_; rintro e w4 ⟨rfl, b4⟩
  have d4 : Below w3.heap.size w3 w4 := below_step (by repeat (first | exact Below.refl _ _ | refine below_drewN ?_ _ | refine Below.drew ?_ | refine Below.setCell ?_ (by first | (simp; done) | (simp; omega) | omega) _ | refine Below.alloc ?_ (by first | (simp; done) | (simp; omega) | omega) _)) b4
  have B4 := Lib.hid (below_step B3.out d4)
  have A4 := A3.keep d4
  have Bb4 := Bb3.keep d4
  have aX := B3.out.size
  have nXA := Nat.ne_of_lt A3.hb
  have oXA := Nat.ne_of_gt A3.hb
  have nXBb := Nat.ne_of_lt Bb3.hb
  have oXBb := Nat.ne_of_gt Bb3.hb
  have X4 : Bk2 w4 (w3.heap.size) (.int .i64 p0) (.int .i64 p1) := Bk2.of b4 (by simp <;> omega) (by intro j; simp [go_sem]) (by simp [go_sem]) (by simp [go_sem])
  clear A3 Bb3 b4 d4 B3
  rw [HM.out]
  have cA_b := A4.hb
  have cA_f := A4.fz
  have cA_0 := A4.k0
  have cA_1 := A4.k1
  have cBb_b := Bb4.hb
  have cBb_f := Bb4.fz
  have cBb_0 := Bb4.k0
  have cBb_1 := Bb4.k1
  have cX_b := X4.hb
  have cX_f := X4.fz
  have cX_0 := X4.k0
  have cX_1 := X4.k1
  go_wp2_with fail
  clear cA_b cA_f cA_0 cA_1 cBb_b cBb_f cBb_0 cBb_1 cX_b cX_f cX_0 cX_1
  refine (span_meet y0 y1 x0 x1 _).mono ?_; rintro e w5 ⟨rfl, b5⟩
  have d5 : Below w4.heap.size w4 w5 := below_step (by repeat (first | exact Below.refl _ _ | refine below_drewN ?_ _ | refine Below.drew ?_ | refine Below.setCell ?_ (by first | (simp; done) | (simp; omega) | omega) _ | refine Below.alloc ?_ (by first | (simp; done) | (simp; omega) | omega) _)) b5
  have B5 := Lib.hid (below_step B4.out d5)
  have A5 := A4.keep d5
  have Bb5 := Bb4.keep d5
  have X5 := X4.keep d5
  clear A4 Bb4 X4 b5 d5 B4
  rw [HM2.out]
  have cA_b := A5.hb
  have cA_f := A5.fz
  have cA_0 := A5.k0
  have cA_1 := A5.k1
  have cBb_b := Bb5.hb
  have cBb_f := Bb5.fz
  have cBb_0 := Bb5.k0
  have cBb_1 := Bb5.k1
  have cX_b := X5.hb
  have cX_f := X5.fz
  have cX_0 := X5.k0
  have cX_1 := X5.k1
  go_wp2_with fail
  clear cA_b cA_f cA_0 cA_1 cBb_b cBb_f cBb_0 cBb_1 cX_b cX_f cX_0 cX_1
  refine (span_has p0 p1 t _).mono ?_; rintro e w6 ⟨rfl, b6⟩
  have d6 : Below w5.heap.size w5 w6 := below_step (by repeat (first | exact Below.refl _ _ | refine below_drewN ?_ _ | refine Below.drew ?_ | refine Below.setCell ?_ (by first | (simp; done) | (simp; omega) | omega) _ | refine Below.alloc ?_ (by first | (simp; done) | (simp; omega) | omega) _)) b6
  have B6 := Lib.hid (below_step B5.out d6)
  have A6 := A5.keep d6
  have Bb6 := Bb5.keep d6
  have X6 := X5.keep d6
  clear A5 Bb5 X5 b6 d6 B5
  rw [HX.out]
  simp only [Bool.true_and, Bool.false_and]
  clear X6 aX
  have cA_b := A6.hb
  have cA_f := A6.fz
  have cA_0 := A6.k0
  have cA_1 := A6.k1
  have cBb_b := Bb6.hb
  have cBb_f := Bb6.fz
  have cBb_0 := Bb6.k0
  have cBb_1 := Bb6.k1
  go_wp2_with fail
  clear cA_b cA_f cA_0 cA_1 cBb_b cBb_f cBb_0 cBb_1
  refine (span_join x0 x1 y0 y1 _).mono ?_; rintro e w7 ⟨rfl, b7⟩
  have d7 : Below w6.heap.size w6 w7 := below_step (by repeat (first | exact Below.refl _ _ | refine below_drewN ?_ _ | refine Below.drew ?_ | refine Below.setCell ?_ (by first | (simp; done) | (simp; omega) | omega) _ | refine Below.alloc ?_ (by first | (simp; done) | (simp; omega) | omega) _)) b7
  have B7 := Lib.hid (below_step B6.out d7)
  have A7 := A6.keep d7
  have Bb7 := Bb6.keep d7
  clear A6 Bb6 b7 d7 B6
  rw [HJ.out]
  simp only [Sp.bz, Bool.false_eq_true, if_false]
  have cA_b := A7.hb
  have cA_f := A7.fz
  have cA_0 := A7.k0
  have cA_1 := A7.k1
  have cBb_b := Bb7.hb
  have cBb_f := Bb7.fz
  have cBb_0 := Bb7.k0
  have cBb_1 := Bb7.k1
  go_wp2_with fail
  clear cA_b cA_f cA_0 cA_1 cBb_b cBb_f cBb_0 cBb_1
  refine (span_meet x0 x1 y0 y1 _).mono ?_; rintro e w8 ⟨rfl, b8⟩
  have d8 : Below w7.heap.size w7 w8 := below_step (by repeat (first | exact Below.refl _ _ | refine below_drewN ?_ _ | refine Below.drew ?_ | refine Below.setCell ?_ (by first | (simp; done) | (simp; omega) | omega) _ | refine Below.alloc ?_ (by first | (simp; done) | (simp; omega) | omega) _)) b8
  have B8 := Lib.hid (below_step B7.out d8)
  have A8 := A7.keep d8
  have Bb8 := Bb7.keep d8
  have aY := B7.out.size
  have nYA := Nat.ne_of_lt A7.hb
  have oYA := Nat.ne_of_gt A7.hb
  have nYBb := Nat.ne_of_lt Bb7.hb
  have oYBb := Nat.ne_of_gt Bb7.hb
  have Y8 : Bk2 w8 (w7.heap.size) (.int .i64 0) (.int .i64 0) := Bk2.of b8 (by simp <;> omega) (by intro j; simp [go_sem]) (by simp [go_sem]) (by simp [go_sem])
  clear A7 Bb7 b8 d8 B7
  rw [HM.out]
  have cA_b := A8.hb
  have cA_f := A8.fz
  have cA_0 := A8.k0
  have cA_1 := A8.k1
  have cBb_b := Bb8.hb
  have cBb_f := Bb8.fz
  have cBb_0 := Bb8.k0
  have cBb_1 := Bb8.k1
  have cY_b := Y8.hb
  have cY_f := Y8.fz
  have cY_0 := Y8.k0
  have cY_1 := Y8.k1
  go_wp2_with fail
  clear cA_b cA_f cA_0 cA_1 cBb_b cBb_f cBb_0 cBb_1 cY_b cY_f cY_0 cY_1
  refine (span_touch x0 x1 y0 y1 _).mono ?_; rintro e w9 ⟨rfl, b9⟩
  have d9 : Below w8.heap.size w8 w9 := below_step (by repeat (first | exact Below.refl _ _ | refine below_drewN ?_ _ | refine Below.drew ?_ | refine Below.setCell ?_ (by first | (simp; done) | (simp; omega) | omega) _ | refine Below.alloc ?_ (by first | (simp; done) | (simp; omega) | omega) _)) b9
  have B9 := Lib.hid (below_step B8.out d9)
  have A9 := A8.keep d9
  have Bb9 := Bb8.keep d9
  have Y9 := Y8.keep d9
  clear A8 Bb8 Y8 b9 d9 B8
  rw [HT.out trivial]
  skip
  skip
  have cA_b := A9.hb
  have cA_f := A9.fz
  have cA_0 := A9.k0
  have cA_1 := A9.k1
  have cBb_b := Bb9.hb
  have cBb_f := Bb9.fz
  have cBb_0 := Bb9.k0
  have cBb_1 := Bb9.k1
  have cY_b := Y9.hb
  have cY_f := Y9.fz
  have cY_0 := Y9.k0
  have cY_1 := Y9.k1
  go_wp2_with fail
  clear cA_b cA_f cA_0 cA_1 cBb_b cBb_f cBb_0 cBb_1 cY_b cY_f cY_0 cY_1
  refine (SL.out _).mono ?_; rintro e w10 ⟨_, sp, rfl, b10⟩
  have Sp_10 := Lib.hid sp; obtain ⟨Ap, cp, rfl, -⟩ := sp
  have d10 : Below w9.heap.size w9 w10 := below_step (by repeat (first | exact Below.refl _ _ | refine below_drewN ?_ _ | refine Below.drew ?_ | refine Below.setCell ?_ (by first | (simp; done) | (simp; omega) | omega) _ | refine Below.alloc ?_ (by first | (simp; done) | (simp; omega) | omega) _)) b10
  have B10 := Lib.hid (below_step B9.out d10)
  have A10 := A9.keep d10
  have Bb10 := Bb9.keep d10
  have Y10 := Y9.keep d10
  clear A9 Bb9 Y9 b10 d10 B9
  clear A10
  clear Bb10
  clear Y10 aY
  have hl2 := HL2.out
  go_wp2_with fail
  have BW := Lib.hid B10.out
  go_loopw [13, 85] (fun c i wr => ∃ k : Nat, k ≤ l.length ∧ i = .int .i64 k ∧ c = .int .i64 (Sp.cnt (l.take k) t) ∧ Below w.heap.size w wr ∧ SpV wr (.slice Ap l.length cp) l) (fun _ i _ => l.length - (intOf i).toNat)
  case atStart => exact ⟨0, Nat.zero_le _, rfl, by simp [Sp.cnt], BW.out, Sp_10.out⟩
  case round =>
    obtain ⟨k, hk, rfl, rfl, hb, hs⟩ := hrel
    have HB := Lib.hid hb
    have HS := Lib.hid hs
    clear hb hs
    by_cases hlt : k < l.length
    · obtain ⟨a, rfl, -, g1, g2⟩ := HS.out.get k hlt
      have SN := Lib.hid (Sp.cnt_snoc l t k hlt)
      have RB := Lib.hid (HR.out l[k] (List.getElem_mem hlt))
      generalize l[k].1 = u at *
      generalize l[k].2 = v at *
      have cb := Sp.cnt_bd (l.take k) t
      have cl : (l.take k).length ≤ 2 := Nat.le_trans (List.length_take_le _ _) (by omega)
      generalize hc : Sp.cnt (l.take k) t = c at *
      have c0 : 0 ≤ c := cb.1
      have c1 : c ≤ 2 := by omega
      clear cb cl hc
      have i0 : (0 : Int) ≤ k := by omega
      have i1 : (k : Int) < l.length := by omega
      cases hh : Sp.hs u v t
      all_goals
        have HH := Lib.hid hh
        rw [hh] at SN
        clear hh
        go_wp2_with fail
        refine (span_right u v _).mono ?_; rintro e v1 ⟨rfl, b1⟩
        rw [RB.out]
        have D1 : Below wr.heap.size wr v1 := below_step (by repeat (first | exact Below.refl _ _ | refine Below.setCell ?_ (by first | (simp; done) | (simp; omega)) _ | refine Below.alloc ?_ (by first | (simp; done) | (simp; omega)) _)) b1
        have Q1 : Bk2 v1 wr.heap.size (.int .i64 u) (.int .i64 v) := Bk2.of b1 (by simp <;> omega) (by intro j; simp [go_sem]) (by simp [go_sem]) (by simp [go_sem])
        have DD1 := Lib.hid D1
        clear b1 D1
        have q0 := Q1.k0; have q1 := Q1.k1
        clear Q1
        go_wp2_with fail
        refine (span_has u v t _).mono ?_; rintro e v2 ⟨rfl, b2⟩
        rw [HH.out]
        have DD2 := Lib.hid (below_step DD1.out b2)
        clear q0 q1 b2 DD1
        go_wp2
        go_roundw
        case rel => exact ⟨k + 1, by omega, by go_num, by rw [SN.out]; first | rfl | (simp [Sp.bi]), below_step HB.out DD2.out, HS.out.on DD2.out⟩
        case measure => simp [intOf]; omega
    · have hkk : k = l.length := by omega
      have e : Sp.cnt (l.take k) t = Sp.bi (true && !o) := by rw [hkk, List.take_length]; exact HC.out
      rw [e]
      clear e
      cases o
      all_goals
        simp only [Sp.bi, Bool.and_true, Bool.and_false, Bool.not_false, Bool.not_true, Bool.true_and, Bool.false_and, if_true, Bool.false_eq_true, if_false]
        go_wp2
        go_ret
        exact ⟨rfl, HB.out⟩
set_option maxHeartbeats 8000000 in
set_option maxRecDepth 100000 in
theorem ssec_false_t (x0 x1 y0 y1 t : Int) (w : World) (hi : Sp.hs x0 x1 t = false) (hm : Sp.mt x0 x1 y0 y1 = true) (hj : Sp.jn x0 x1 y0 y1 = true) :
    Calls Try.prog 11 #[.agg #[.int .i64 x0, .int .i64 x1], .agg #[.int .i64 y0, .int .i64 y1], .int .i64 t] w fun e w' => e = .returned (.bool true) ∧ Below w.heap.size w w' := by
  have HI := Lib.hid hi
  have HM := Lib.hid hm
  have HM2 := Lib.hid ((Sp.mt_comm x0 x1 y0 y1).trans hm)
  have HJ := Lib.hid hj
  have HX : Hid (Sp.hs (Sp.bz true (max x0 y0)) (Sp.bz true (min x1 y1)) t = (false && Sp.hs y0 y1 t)) := Lib.hid (by have q := Sp.hs_both x0 x1 y0 y1 t; rw [hm, hi] at q; exact q)
  have HY : Hid (true = true → Sp.hs (min x0 y0) (max x1 y1) t = (false || Sp.hs y0 y1 t)) := Lib.hid (by intro e; rw [← hi]; exact Sp.hs_join x0 x1 y0 y1 t (hj.trans e))
  have HT : Hid (true = false → Sp.tc x0 x1 y0 y1 = true) := Lib.hid (by intro e; rw [← hj]; unfold Sp.jn; rw [hm, e]; rfl)
  have HR := Lib.hid (fun p (h : p ∈ Sp.less x0 x1 y0 y1) => Sp.less_right h)
  have HC : Hid (Sp.cnt (Sp.less x0 x1 y0 y1) t = Sp.bi (false && !Sp.hs y0 y1 t)) := Lib.hid (by rw [← hi]; exact Sp.less_cnt x0 x1 y0 y1 t)
  have HL2 := Lib.hid (less_len2 x0 x1 y0 y1)
  have SL := Lib.hid (sless_any x0 x1 y0 y1)
  generalize Sp.less x0 x1 y0 y1 = l at HR HC SL HL2
  generalize ho : Sp.hs y0 y1 t = o at HX HY HC
  have HO := Lib.hid ho
  generalize hp0 : Sp.bz true (max x0 y0) = p0 at HX
  generalize hp1 : Sp.bz true (min x1 y1) = p1 at HX
  have HP0 := Lib.hid hp0
  have HP1 := Lib.hid hp1
  clear hi hm hj ho hp0 hp1
  go_enter Try.func11, Try.ntmps11
  go_wp2_with fail
  refine (lives10 _).mono ?_; rintro e w1 ⟨rfl, b1⟩
  have d1 : Below w.heap.size w w1 := below_step (by repeat (first | exact Below.refl _ _ | refine below_drewN ?_ _ | refine Below.drew ?_ | refine Below.setCell ?_ (by first | (simp; done) | (simp; omega) | omega) _ | refine Below.alloc ?_ (by first | (simp; done) | (simp; omega) | omega) _)) b1
  have B1 := Lib.hid d1
  have A1 : Bk2 w1 (w.heap.size) (.int .i64 x0) (.int .i64 x1) := Bk2.of b1 (by simp <;> omega) (by intro j; simp [go_sem]) (by simp [go_sem]) (by simp [go_sem])
  have Bb1 : Bk2 w1 (w.heap.size + 1) (.int .i64 y0) (.int .i64 y1) := Bk2.of b1 (by simp <;> omega) (by intro j; simp [go_sem]) (by simp [go_sem]) (by simp [go_sem])
  clear b1 d1
  have cA_b := A1.hb
  have cA_f := A1.fz
  have cA_0 := A1.k0
  have cA_1 := A1.k1
  have cBb_b := Bb1.hb
  have cBb_f := Bb1.fz
  have cBb_0 := Bb1.k0
  have cBb_1 := Bb1.k1
  go_wp2_with fail
  clear cA_b cA_f cA_0 cA_1 cBb_b cBb_f cBb_0 cBb_1
  have qA_0 := cell_regrown A1.k0
  have qA_1 := cell_regrown A1.k1
  have qBb_0 := cell_regrown Bb1.k0
  have qBb_1 := cell_regrown Bb1.k1
  refine wp_region_qb (w := w1) (by kernel_rfl) (by kernel_rfl) (by repeat (first | exact Below.refl _ _ | refine below_drewN ?_ _ | refine Below.drew ?_ | refine Below.setCell ?_ (by first | (simp; done) | (simp; omega) | omega) _ | refine Below.alloc ?_ (by first | (simp; done) | (simp; omega) | omega) _)) ?_
  repeat (any_goals (first | go_big_quiet_step (first | (go_at_call 48; exact Calls.regrown_of (span_has _ _ _ _))) | quiet_step (first | (go_at_call 48; exact Calls.regrown_of (span_has _ _ _ _)))))
  refine wpQuiet_nil ?_
  intro w2 hq
  have b2 : Below w1.heap.size w1 w2 := by obtain ⟨p, hq⟩ := hq; rw [hq]; exact below_regrown _ _ _
  clear hq qA_0 qA_1 qBb_0 qBb_1
  have d2 : Below w1.heap.size w1 w2 := below_step (by repeat (first | exact Below.refl _ _ | refine below_drewN ?_ _ | refine Below.drew ?_ | refine Below.setCell ?_ (by first | (simp; done) | (simp; omega) | omega) _ | refine Below.alloc ?_ (by first | (simp; done) | (simp; omega) | omega) _)) b2
  have B2 := Lib.hid (below_step B1.out d2)
  have A2 := A1.keep d2
  have Bb2 := Bb1.keep d2
  clear A1 Bb1 b2 d2 B1
  rw [HI.out, HO.out]
  have cA_b := A2.hb
  have cA_f := A2.fz
  have cA_0 := A2.k0
  have cA_1 := A2.k1
  have cBb_b := Bb2.hb
  have cBb_f := Bb2.fz
  have cBb_0 := Bb2.k0
  have cBb_1 := Bb2.k1
  go_wp2_with fail
  clear cA_b cA_f cA_0 cA_1 cBb_b cBb_f cBb_0 cBb_1
  refine (span_both x0 x1 y0 y1 _).mono ?_; rintro e w3 ⟨rfl, b3⟩
  have d3 : Below w2.heap.size w2 w3 := below_step (by repeat (first | exact Below.refl _ _ | refine below_drewN ?_ _ | refine Below.drew ?_ | refine Below.setCell ?_ (by first | (simp; done) | (simp; omega) | omega) _ | refine Below.alloc ?_ (by first | (simp; done) | (simp; omega) | omega) _)) b3
  have B3 := Lib.hid (below_step B2.out d3)
  have A3 := A2.keep d3
  have Bb3 := Bb2.keep d3
  clear A2 Bb2 b3 d3 B2
  rw [HM.out, HP0.out, HP1.out]
  have cA_b := A3.hb
  have cA_f := A3.fz
  have cA_0 := A3.k0
  have cA_1 := A3.k1
  have cBb_b := Bb3.hb
  have cBb_f := Bb3.fz
  have cBb_0 := Bb3.k0
  have cBb_1 := Bb3.k1
  go_wp2_with fail
  clear cA_b cA_f cA_0 cA_1 cBb_b cBb_f cBb_0 cBb_1
  refine (span_meet x0 x1 y0 y1 _).mono ?_; rintro e w4 ⟨rfl, b4⟩
  have d4 : Below w3.heap.size w3 w4 := below_step (by repeat (first | exact Below.refl _ _ | refine below_drewN ?_ _ | refine Below.drew ?_ | refine Below.setCell ?_ (by first | (simp; done) | (simp; omega) | omega) _ | refine Below.alloc ?_ (by first | (simp; done) | (simp; omega) | omega) _)) b4
  have B4 := Lib.hid (below_step B3.out d4)
  have A4 := A3.keep d4
  have Bb4 := Bb3.keep d4
  have aX := B3.out.size
  have nXA := Nat.ne_of_lt A3.hb
  have oXA := Nat.ne_of_gt A3.hb
  have nXBb := Nat.ne_of_lt Bb3.hb
  have oXBb := Nat.ne_of_gt Bb3.hb
  have X4 : Bk2 w4 (w3.heap.size) (.int .i64 p0) (.int .i64 p1) := Bk2.of b4 (by simp <;> omega) (by intro j; simp [go_sem]) (by simp [go_sem]) (by simp [go_sem])
  clear A3 Bb3 b4 d4 B3
  rw [HM.out]
  have cA_b := A4.hb
  have cA_f := A4.fz
  have cA_0 := A4.k0
  have cA_1 := A4.k1
  have cBb_b := Bb4.hb
  have cBb_f := Bb4.fz
  have cBb_0 := Bb4.k0
  have cBb_1 := Bb4.k1
  have cX_b := X4.hb
  have cX_f := X4.fz
  have cX_0 := X4.k0
  have cX_1 := X4.k1
  go_wp2_with fail
  clear cA_b cA_f cA_0 cA_1 cBb_b cBb_f cBb_0 cBb_1 cX_b cX_f cX_0 cX_1
  refine (span_meet y0 y1 x0 x1 _).mono ?_; rintro e w5 ⟨rfl, b5⟩
  have d5 : Below w4.heap.size w4 w5 := below_step (by repeat (first | exact Below.refl _ _ | refine below_drewN ?_ _ | refine Below.drew ?_ | refine Below.setCell ?_ (by first | (simp; done) | (simp; omega) | omega) _ | refine Below.alloc ?_ (by first | (simp; done) | (simp; omega) | omega) _)) b5
  have B5 := Lib.hid (below_step B4.out d5)
  have A5 := A4.keep d5
  have Bb5 := Bb4.keep d5
  have X5 := X4.keep d5
  clear A4 Bb4 X4 b5 d5 B4
  rw [HM2.out]
  have cA_b := A5.hb
  have cA_f := A5.fz
  have cA_0 := A5.k0
  have cA_1 := A5.k1
  have cBb_b := Bb5.hb
  have cBb_f := Bb5.fz
  have cBb_0 := Bb5.k0
  have cBb_1 := Bb5.k1
  have cX_b := X5.hb
  have cX_f := X5.fz
  have cX_0 := X5.k0
  have cX_1 := X5.k1
  go_wp2_with fail
  clear cA_b cA_f cA_0 cA_1 cBb_b cBb_f cBb_0 cBb_1 cX_b cX_f cX_0 cX_1
  refine (span_has p0 p1 t _).mono ?_; rintro e w6 ⟨rfl, b6⟩
  have d6 : Below w5.heap.size w5 w6 := below_step (by repeat (first | exact Below.refl _ _ | refine below_drewN ?_ _ | refine Below.drew ?_ | refine Below.setCell ?_ (by first | (simp; done) | (simp; omega) | omega) _ | refine Below.alloc ?_ (by first | (simp; done) | (simp; omega) | omega) _)) b6
  have B6 := Lib.hid (below_step B5.out d6)
  have A6 := A5.keep d6
  have Bb6 := Bb5.keep d6
  have X6 := X5.keep d6
  clear A5 Bb5 X5 b6 d6 B5
  rw [HX.out]
  simp only [Bool.true_and, Bool.false_and]
  clear X6 aX
  have cA_b := A6.hb
  have cA_f := A6.fz
  have cA_0 := A6.k0
  have cA_1 := A6.k1
  have cBb_b := Bb6.hb
  have cBb_f := Bb6.fz
  have cBb_0 := Bb6.k0
  have cBb_1 := Bb6.k1
  go_wp2_with fail
  clear cA_b cA_f cA_0 cA_1 cBb_b cBb_f cBb_0 cBb_1
  refine (span_join x0 x1 y0 y1 _).mono ?_; rintro e w7 ⟨rfl, b7⟩
  have d7 : Below w6.heap.size w6 w7 := below_step (by repeat (first | exact Below.refl _ _ | refine below_drewN ?_ _ | refine Below.drew ?_ | refine Below.setCell ?_ (by first | (simp; done) | (simp; omega) | omega) _ | refine Below.alloc ?_ (by first | (simp; done) | (simp; omega) | omega) _)) b7
  have B7 := Lib.hid (below_step B6.out d7)
  have A7 := A6.keep d7
  have Bb7 := Bb6.keep d7
  clear A6 Bb6 b7 d7 B6
  rw [HJ.out]
  simp only [Sp.bz, if_true]
  have cA_b := A7.hb
  have cA_f := A7.fz
  have cA_0 := A7.k0
  have cA_1 := A7.k1
  have cBb_b := Bb7.hb
  have cBb_f := Bb7.fz
  have cBb_0 := Bb7.k0
  have cBb_1 := Bb7.k1
  go_wp2_with fail
  clear cA_b cA_f cA_0 cA_1 cBb_b cBb_f cBb_0 cBb_1
  refine (span_meet x0 x1 y0 y1 _).mono ?_; rintro e w8 ⟨rfl, b8⟩
  have d8 : Below w7.heap.size w7 w8 := below_step (by repeat (first | exact Below.refl _ _ | refine below_drewN ?_ _ | refine Below.drew ?_ | refine Below.setCell ?_ (by first | (simp; done) | (simp; omega) | omega) _ | refine Below.alloc ?_ (by first | (simp; done) | (simp; omega) | omega) _)) b8
  have B8 := Lib.hid (below_step B7.out d8)
  have A8 := A7.keep d8
  have Bb8 := Bb7.keep d8
  have aY := B7.out.size
  have nYA := Nat.ne_of_lt A7.hb
  have oYA := Nat.ne_of_gt A7.hb
  have nYBb := Nat.ne_of_lt Bb7.hb
  have oYBb := Nat.ne_of_gt Bb7.hb
  have Y8 : Bk2 w8 (w7.heap.size) (.int .i64 (min x0 y0)) (.int .i64 (max x1 y1)) := Bk2.of b8 (by simp <;> omega) (by intro j; simp [go_sem]) (by simp [go_sem]) (by simp [go_sem])
  clear A7 Bb7 b8 d8 B7
  rw [HM.out]
  skip
  skip
  have cA_b := A8.hb
  have cA_f := A8.fz
  have cA_0 := A8.k0
  have cA_1 := A8.k1
  have cBb_b := Bb8.hb
  have cBb_f := Bb8.fz
  have cBb_0 := Bb8.k0
  have cBb_1 := Bb8.k1
  have cY_b := Y8.hb
  have cY_f := Y8.fz
  have cY_0 := Y8.k0
  have cY_1 := Y8.k1
  go_wp2_with fail
  clear cA_b cA_f cA_0 cA_1 cBb_b cBb_f cBb_0 cBb_1 cY_b cY_f cY_0 cY_1
  refine (span_has (min x0 y0) (max x1 y1) t _).mono ?_; rintro e w9 ⟨rfl, b9⟩
  have d9 : Below w8.heap.size w8 w9 := below_step (by repeat (first | exact Below.refl _ _ | refine below_drewN ?_ _ | refine Below.drew ?_ | refine Below.setCell ?_ (by first | (simp; done) | (simp; omega) | omega) _ | refine Below.alloc ?_ (by first | (simp; done) | (simp; omega) | omega) _)) b9
  have B9 := Lib.hid (below_step B8.out d9)
  have A9 := A8.keep d9
  have Bb9 := Bb8.keep d9
  have Y9 := Y8.keep d9
  clear A8 Bb8 Y8 b9 d9 B8
  rw [HY.out trivial]
  have cA_b := A9.hb
  have cA_f := A9.fz
  have cA_0 := A9.k0
  have cA_1 := A9.k1
  have cBb_b := Bb9.hb
  have cBb_f := Bb9.fz
  have cBb_0 := Bb9.k0
  have cBb_1 := Bb9.k1
  have cY_b := Y9.hb
  have cY_f := Y9.fz
  have cY_0 := Y9.k0
  have cY_1 := Y9.k1
  go_wp2_with fail
  clear cA_b cA_f cA_0 cA_1 cBb_b cBb_f cBb_0 cBb_1 cY_b cY_f cY_0 cY_1
  refine (SL.out _).mono ?_; rintro e w10 ⟨_, sp, rfl, b10⟩
  have Sp_10 := Lib.hid sp; obtain ⟨Ap, cp, rfl, -⟩ := sp
  have d10 : Below w9.heap.size w9 w10 := below_step (by repeat (first | exact Below.refl _ _ | refine below_drewN ?_ _ | refine Below.drew ?_ | refine Below.setCell ?_ (by first | (simp; done) | (simp; omega) | omega) _ | refine Below.alloc ?_ (by first | (simp; done) | (simp; omega) | omega) _)) b10
  have B10 := Lib.hid (below_step B9.out d10)
  have A10 := A9.keep d10
  have Bb10 := Bb9.keep d10
  have Y10 := Y9.keep d10
  clear A9 Bb9 Y9 b10 d10 B9
  clear A10
  clear Bb10
  clear Y10 aY
  have hl2 := HL2.out
  go_wp2_with fail
  have BW := Lib.hid B10.out
  go_loopw [13, 85] (fun c i wr => ∃ k : Nat, k ≤ l.length ∧ i = .int .i64 k ∧ c = .int .i64 (Sp.cnt (l.take k) t) ∧ Below w.heap.size w wr ∧ SpV wr (.slice Ap l.length cp) l) (fun _ i _ => l.length - (intOf i).toNat)
  case atStart => exact ⟨0, Nat.zero_le _, rfl, by simp [Sp.cnt], BW.out, Sp_10.out⟩
  case round =>
    obtain ⟨k, hk, rfl, rfl, hb, hs⟩ := hrel
    have HB := Lib.hid hb
    have HS := Lib.hid hs
    clear hb hs
    by_cases hlt : k < l.length
    · obtain ⟨a, rfl, -, g1, g2⟩ := HS.out.get k hlt
      have SN := Lib.hid (Sp.cnt_snoc l t k hlt)
      have RB := Lib.hid (HR.out l[k] (List.getElem_mem hlt))
      generalize l[k].1 = u at *
      generalize l[k].2 = v at *
      have cb := Sp.cnt_bd (l.take k) t
      have cl : (l.take k).length ≤ 2 := Nat.le_trans (List.length_take_le _ _) (by omega)
      generalize hc : Sp.cnt (l.take k) t = c at *
      have c0 : 0 ≤ c := cb.1
      have c1 : c ≤ 2 := by omega
      clear cb cl hc
      have i0 : (0 : Int) ≤ k := by omega
      have i1 : (k : Int) < l.length := by omega
      cases hh : Sp.hs u v t
      all_goals
        have HH := Lib.hid hh
        rw [hh] at SN
        clear hh
        go_wp2_with fail
        refine (span_right u v _).mono ?_; rintro e v1 ⟨rfl, b1⟩
        rw [RB.out]
        have D1 : Below wr.heap.size wr v1 := below_step (by repeat (first | exact Below.refl _ _ | refine Below.setCell ?_ (by first | (simp; done) | (simp; omega)) _ | refine Below.alloc ?_ (by first | (simp; done) | (simp; omega)) _)) b1
        have Q1 : Bk2 v1 wr.heap.size (.int .i64 u) (.int .i64 v) := Bk2.of b1 (by simp <;> omega) (by intro j; simp [go_sem]) (by simp [go_sem]) (by simp [go_sem])
        have DD1 := Lib.hid D1
        clear b1 D1
        have q0 := Q1.k0; have q1 := Q1.k1
        clear Q1
        go_wp2_with fail
        refine (span_has u v t _).mono ?_; rintro e v2 ⟨rfl, b2⟩
        rw [HH.out]
        have DD2 := Lib.hid (below_step DD1.out b2)
        clear q0 q1 b2 DD1
        go_wp2
        go_roundw
        case rel => exact ⟨k + 1, by omega, by go_num, by rw [SN.out]; first | rfl | (simp [Sp.bi]), below_step HB.out DD2.out, HS.out.on DD2.out⟩
        case measure => simp [intOf]; omega
    · have hkk : k = l.length := by omega
      have e : Sp.cnt (l.take k) t = Sp.bi (false && !o) := by rw [hkk, List.take_length]; exact HC.out
      rw [e]
      clear e
      cases o
      all_goals
        simp only [Sp.bi, Bool.and_true, Bool.and_false, Bool.not_false, Bool.not_true, Bool.true_and, Bool.false_and, if_true, Bool.false_eq_true, if_false]
        go_wp2
        go_ret
        exact ⟨rfl, HB.out⟩
set_option maxHeartbeats 8000000 in
set_option maxRecDepth 100000 in
theorem ssec_false_fc (x0 x1 y0 y1 t : Int) (w : World) (hi : Sp.hs x0 x1 t = false) (hm : Sp.mt x0 x1 y0 y1 = false) (hj : Sp.jn x0 x1 y0 y1 = true) :
    Calls Try.prog 11 #[.agg #[.int .i64 x0, .int .i64 x1], .agg #[.int .i64 y0, .int .i64 y1], .int .i64 t] w fun e w' => e = .returned (.bool true) ∧ Below w.heap.size w w' := by
  have HI := Lib.hid hi
  have HM := Lib.hid hm
  have HM2 := Lib.hid ((Sp.mt_comm x0 x1 y0 y1).trans hm)
  have HJ := Lib.hid hj
  have HX : Hid (Sp.hs (Sp.bz false (max x0 y0)) (Sp.bz false (min x1 y1)) t = (false && Sp.hs y0 y1 t)) := Lib.hid (by have q := Sp.hs_both x0 x1 y0 y1 t; rw [hm, hi] at q; exact q)
  have HY : Hid (true = true → Sp.hs (min x0 y0) (max x1 y1) t = (false || Sp.hs y0 y1 t)) := Lib.hid (by intro e; rw [← hi]; exact Sp.hs_join x0 x1 y0 y1 t (hj.trans e))
  have HT : Hid (false = false → Sp.tc x0 x1 y0 y1 = true) := Lib.hid (by intro e; rw [← hj]; unfold Sp.jn; rw [hm, e]; rfl)
  have HR := Lib.hid (fun p (h : p ∈ Sp.less x0 x1 y0 y1) => Sp.less_right h)
  have HC : Hid (Sp.cnt (Sp.less x0 x1 y0 y1) t = Sp.bi (false && !Sp.hs y0 y1 t)) := Lib.hid (by rw [← hi]; exact Sp.less_cnt x0 x1 y0 y1 t)
  have HL2 := Lib.hid (less_len2 x0 x1 y0 y1)
  have SL := Lib.hid (sless_any x0 x1 y0 y1)
  generalize Sp.less x0 x1 y0 y1 = l at HR HC SL HL2
  generalize ho : Sp.hs y0 y1 t = o at HX HY HC
  have HO := Lib.hid ho
  generalize hp0 : Sp.bz false (max x0 y0) = p0 at HX
  generalize hp1 : Sp.bz false (min x1 y1) = p1 at HX
  have HP0 := Lib.hid hp0
  have HP1 := Lib.hid hp1
  clear hi hm hj ho hp0 hp1
  go_enter Try.func11, Try.ntmps11
  go_wp2_with fail
  refine (lives10 _).mono ?_; rintro e w1 ⟨rfl, b1⟩
  have d1 : Below w.heap.size w w1 := below_step (by repeat (first | exact Below.refl _ _ | refine below_drewN ?_ _ | refine Below.drew ?_ | refine Below.setCell ?_ (by first | (simp; done) | (simp; omega) | omega) _ | refine Below.alloc ?_ (by first | (simp; done) | (simp; omega) | omega) _)) b1
  have B1 := Lib.hid d1
  have A1 : Bk2 w1 (w.heap.size) (.int .i64 x0) (.int .i64 x1) := Bk2.of b1 (by simp <;> omega) (by intro j; simp [go_sem]) (by simp [go_sem]) (by simp [go_sem])
  have Bb1 : Bk2 w1 (w.heap.size + 1) (.int .i64 y0) (.int .i64 y1) := Bk2.of b1 (by simp <;> omega) (by intro j; simp [go_sem]) (by simp [go_sem]) (by simp [go_sem])
  clear b1 d1
  have cA_b := A1.hb
  have cA_f := A1.fz
  have cA_0 := A1.k0
  have cA_1 := A1.k1
  have cBb_b := Bb1.hb
  have cBb_f := Bb1.fz
  have cBb_0 := Bb1.k0
  have cBb_1 := Bb1.k1
  go_wp2_with fail
  clear cA_b cA_f cA_0 cA_1 cBb_b cBb_f cBb_0 cBb_1
  have qA_0 := cell_regrown A1.k0
  have qA_1 := cell_regrown A1.k1
  have qBb_0 := cell_regrown Bb1.k0
  have qBb_1 := cell_regrown Bb1.k1
  refine wp_region_qb (w := w1) (by kernel_rfl) (by kernel_rfl) (by repeat (first | exact Below.refl _ _ | refine below_drewN ?_ _ | refine Below.drew ?_ | refine Below.setCell ?_ (by first | (simp; done) | (simp; omega) | omega) _ | refine Below.alloc ?_ (by first | (simp; done) | (simp; omega) | omega) _)) ?_
  repeat (any_goals (first | go_big_quiet_step (first | (go_at_call 48; exact Calls.regrown_of (span_has _ _ _ _))) | quiet_step (first | (go_at_call 48; exact Calls.regrown_of (span_has _ _ _ _)))))
  refine wpQuiet_nil ?_
  intro w2 hq
  have b2 : Below w1.heap.size w1 w2 := by obtain ⟨p, hq⟩ := hq; rw [hq]; exact below_regrown _ _ _
  clear hq qA_0 qA_1 qBb_0 qBb_1
  have d2 : Below w1.heap.size w1 w2 := below_step (by repeat (first | exact Below.refl _ _ | refine below_drewN ?_ _ | refine Below.drew ?_ | refine Below.setCell ?_ (by first | (simp; done) | (simp; omega) | omega) _ | refine Below.alloc ?_ (by first | (simp; done) | (simp; omega) | omega) _)) b2
  have B2 := Lib.hid (below_step B1.out d2)
  have A2 := A1.keep d2
  have Bb2 := Bb1.keep d2
  clear A1 Bb1 b2 d2 B1
  rw [HI.out, HO.out]
  have cA_b := A2.hb
  have cA_f := A2.fz
  have cA_0 := A2.k0
  have cA_1 := A2.k1
  have cBb_b := Bb2.hb
  have cBb_f := Bb2.fz
  have cBb_0 := Bb2.k0
  have cBb_1 := Bb2.k1
  go_wp2_with fail
  clear cA_b cA_f cA_0 cA_1 cBb_b cBb_f cBb_0 cBb_1
  refine (span_both x0 x1 y0 y1 _).mono ?_; rintro e w3 ⟨rfl, b3⟩
  have d3 : Below w2.heap.size w2 w3 := below_step (by repeat (first | exact Below.refl _ _ | refine below_drewN ?_ _ | refine Below.drew ?_ | refine Below.setCell ?_ (by first | (simp; done) | (simp; omega) | omega) _ | refine Below.alloc ?_ (by first | (simp; done) | (simp; omega) | omega) _)) b3
  have B3 := Lib.hid (below_step B2.out d3)
  have A3 := A2.keep d3
  have Bb3 := Bb2.keep d3
  clear A2 Bb2 b3 d3 B2
  rw [HM.out, HP0.out, HP1.out]
  have cA_b := A3.hb
  have cA_f := A3.fz
  have cA_0 := A3.k0
  have cA_1 := A3.k1
  have cBb_b := Bb3.hb
  have cBb_f := Bb3.fz
  have cBb_0 := Bb3.k0
  have cBb_1 := Bb3.k1
  go_wp2_with fail
  clear cA_b cA_f cA_0 cA_1 cBb_b cBb_f cBb_0 cBb_1
  refine (span_meet x0 x1 y0 y1 _).mono ?_; rintro e w4 ⟨rfl, b4⟩
  have d4 : Below w3.heap.size w3 w4 := below_step (by repeat (first | exact Below.refl _ _ | refine below_drewN ?_ _ | refine Below.drew ?_ | refine Below.setCell ?_ (by first | (simp; done) | (simp; omega) | omega) _ | refine Below.alloc ?_ (by first | (simp; done) | (simp; omega) | omega) _)) b4
  have B4 := Lib.hid (below_step B3.out d4)
  have A4 := A3.keep d4
  have Bb4 := Bb3.keep d4
  have aX := B3.out.size
  have nXA := Nat.ne_of_lt A3.hb
  have oXA := Nat.ne_of_gt A3.hb
  have nXBb := Nat.ne_of_lt Bb3.hb
  have oXBb := Nat.ne_of_gt Bb3.hb
  have X4 : Bk2 w4 (w3.heap.size) (.int .i64 p0) (.int .i64 p1) := Bk2.of b4 (by simp <;> omega) (by intro j; simp [go_sem]) (by simp [go_sem]) (by simp [go_sem])
  clear A3 Bb3 b4 d4 B3
  rw [HM.out]
  have cA_b := A4.hb
  have cA_f := A4.fz
  have cA_0 := A4.k0
  have cA_1 := A4.k1
  have cBb_b := Bb4.hb
  have cBb_f := Bb4.fz
  have cBb_0 := Bb4.k0
  have cBb_1 := Bb4.k1
  have cX_b := X4.hb
  have cX_f := X4.fz
  have cX_0 := X4.k0
  have cX_1 := X4.k1
  go_wp2_with fail
  clear cA_b cA_f cA_0 cA_1 cBb_b cBb_f cBb_0 cBb_1 cX_b cX_f cX_0 cX_1
  refine (span_meet y0 y1 x0 x1 _).mono ?_; rintro e w5 ⟨rfl, b5⟩
  have d5 : Below w4.heap.size w4 w5 := below_step (by repeat (first | exact Below.refl _ _ | refine below_drewN ?_ _ | refine Below.drew ?_ | refine Below.setCell ?_ (by first | (simp; done) | (simp; omega) | omega) _ | refine Below.alloc ?_ (by first | (simp; done) | (simp; omega) | omega) _)) b5
  have B5 := Lib.hid (below_step B4.out d5)
  have A5 := A4.keep d5
  have Bb5 := Bb4.keep d5
  have X5 := X4.keep d5
  clear A4 Bb4 X4 b5 d5 B4
  rw [HM2.out]
  have cA_b := A5.hb
  have cA_f := A5.fz
  have cA_0 := A5.k0
  have cA_1 := A5.k1
  have cBb_b := Bb5.hb
  have cBb_f := Bb5.fz
  have cBb_0 := Bb5.k0
  have cBb_1 := Bb5.k1
  have cX_b := X5.hb
  have cX_f := X5.fz
  have cX_0 := X5.k0
  have cX_1 := X5.k1
  go_wp2_with fail
  clear cA_b cA_f cA_0 cA_1 cBb_b cBb_f cBb_0 cBb_1 cX_b cX_f cX_0 cX_1
  refine (span_has p0 p1 t _).mono ?_; rintro e w6 ⟨rfl, b6⟩
  have d6 : Below w5.heap.size w5 w6 := below_step (by repeat (first | exact Below.refl _ _ | refine below_drewN ?_ _ | refine Below.drew ?_ | refine Below.setCell ?_ (by first | (simp; done) | (simp; omega) | omega) _ | refine Below.alloc ?_ (by first | (simp; done) | (simp; omega) | omega) _)) b6
  have B6 := Lib.hid (below_step B5.out d6)
  have A6 := A5.keep d6
  have Bb6 := Bb5.keep d6
  have X6 := X5.keep d6
  clear A5 Bb5 X5 b6 d6 B5
  rw [HX.out]
  simp only [Bool.true_and, Bool.false_and]
  clear X6 aX
  have cA_b := A6.hb
  have cA_f := A6.fz
  have cA_0 := A6.k0
  have cA_1 := A6.k1
  have cBb_b := Bb6.hb
  have cBb_f := Bb6.fz
  have cBb_0 := Bb6.k0
  have cBb_1 := Bb6.k1
  go_wp2_with fail
  clear cA_b cA_f cA_0 cA_1 cBb_b cBb_f cBb_0 cBb_1
  refine (span_join x0 x1 y0 y1 _).mono ?_; rintro e w7 ⟨rfl, b7⟩
  have d7 : Below w6.heap.size w6 w7 := below_step (by repeat (first | exact Below.refl _ _ | refine below_drewN ?_ _ | refine Below.drew ?_ | refine Below.setCell ?_ (by first | (simp; done) | (simp; omega) | omega) _ | refine Below.alloc ?_ (by first | (simp; done) | (simp; omega) | omega) _)) b7
  have B7 := Lib.hid (below_step B6.out d7)
  have A7 := A6.keep d7
  have Bb7 := Bb6.keep d7
  clear A6 Bb6 b7 d7 B6
  rw [HJ.out]
  simp only [Sp.bz, if_true]
  have cA_b := A7.hb
  have cA_f := A7.fz
  have cA_0 := A7.k0
  have cA_1 := A7.k1
  have cBb_b := Bb7.hb
  have cBb_f := Bb7.fz
  have cBb_0 := Bb7.k0
  have cBb_1 := Bb7.k1
  go_wp2_with fail
  clear cA_b cA_f cA_0 cA_1 cBb_b cBb_f cBb_0 cBb_1
  refine (span_meet x0 x1 y0 y1 _).mono ?_; rintro e w8 ⟨rfl, b8⟩
  have d8 : Below w7.heap.size w7 w8 := below_step (by repeat (first | exact Below.refl _ _ | refine below_drewN ?_ _ | refine Below.drew ?_ | refine Below.setCell ?_ (by first | (simp; done) | (simp; omega) | omega) _ | refine Below.alloc ?_ (by first | (simp; done) | (simp; omega) | omega) _)) b8
  have B8 := Lib.hid (below_step B7.out d8)
  have A8 := A7.keep d8
  have Bb8 := Bb7.keep d8
  have aY := B7.out.size
  have nYA := Nat.ne_of_lt A7.hb
  have oYA := Nat.ne_of_gt A7.hb
  have nYBb := Nat.ne_of_lt Bb7.hb
  have oYBb := Nat.ne_of_gt Bb7.hb
  have Y8 : Bk2 w8 (w7.heap.size) (.int .i64 (min x0 y0)) (.int .i64 (max x1 y1)) := Bk2.of b8 (by simp <;> omega) (by intro j; simp [go_sem]) (by simp [go_sem]) (by simp [go_sem])
  clear A7 Bb7 b8 d8 B7
  rw [HM.out]
  have cA_b := A8.hb
  have cA_f := A8.fz
  have cA_0 := A8.k0
  have cA_1 := A8.k1
  have cBb_b := Bb8.hb
  have cBb_f := Bb8.fz
  have cBb_0 := Bb8.k0
  have cBb_1 := Bb8.k1
  have cY_b := Y8.hb
  have cY_f := Y8.fz
  have cY_0 := Y8.k0
  have cY_1 := Y8.k1
  go_wp2_with fail
  clear cA_b cA_f cA_0 cA_1 cBb_b cBb_f cBb_0 cBb_1 cY_b cY_f cY_0 cY_1
  refine (span_touch x0 x1 y0 y1 _).mono ?_; rintro e w9 ⟨rfl, b9⟩
  have d9 : Below w8.heap.size w8 w9 := below_step (by repeat (first | exact Below.refl _ _ | refine below_drewN ?_ _ | refine Below.drew ?_ | refine Below.setCell ?_ (by first | (simp; done) | (simp; omega) | omega) _ | refine Below.alloc ?_ (by first | (simp; done) | (simp; omega) | omega) _)) b9
  have B9 := Lib.hid (below_step B8.out d9)
  have A9 := A8.keep d9
  have Bb9 := Bb8.keep d9
  have Y9 := Y8.keep d9
  clear A8 Bb8 Y8 b9 d9 B8
  rw [HT.out trivial]
  have cA_b := A9.hb
  have cA_f := A9.fz
  have cA_0 := A9.k0
  have cA_1 := A9.k1
  have cBb_b := Bb9.hb
  have cBb_f := Bb9.fz
  have cBb_0 := Bb9.k0
  have cBb_1 := Bb9.k1
  have cY_b := Y9.hb
  have cY_f := Y9.fz
  have cY_0 := Y9.k0
  have cY_1 := Y9.k1
  go_wp2_with fail
  clear cA_b cA_f cA_0 cA_1 cBb_b cBb_f cBb_0 cBb_1 cY_b cY_f cY_0 cY_1
  refine (span_has (min x0 y0) (max x1 y1) t _).mono ?_; rintro e w10 ⟨rfl, b10⟩
  have d10 : Below w9.heap.size w9 w10 := below_step (by repeat (first | exact Below.refl _ _ | refine below_drewN ?_ _ | refine Below.drew ?_ | refine Below.setCell ?_ (by first | (simp; done) | (simp; omega) | omega) _ | refine Below.alloc ?_ (by first | (simp; done) | (simp; omega) | omega) _)) b10
  have B10 := Lib.hid (below_step B9.out d10)
  have A10 := A9.keep d10
  have Bb10 := Bb9.keep d10
  have Y10 := Y9.keep d10
  clear A9 Bb9 Y9 b10 d10 B9
  rw [HY.out trivial]
  have cA_b := A10.hb
  have cA_f := A10.fz
  have cA_0 := A10.k0
  have cA_1 := A10.k1
  have cBb_b := Bb10.hb
  have cBb_f := Bb10.fz
  have cBb_0 := Bb10.k0
  have cBb_1 := Bb10.k1
  have cY_b := Y10.hb
  have cY_f := Y10.fz
  have cY_0 := Y10.k0
  have cY_1 := Y10.k1
  go_wp2_with fail
  clear cA_b cA_f cA_0 cA_1 cBb_b cBb_f cBb_0 cBb_1 cY_b cY_f cY_0 cY_1
  refine (SL.out _).mono ?_; rintro e w11 ⟨_, sp, rfl, b11⟩
  have Sp_11 := Lib.hid sp; obtain ⟨Ap, cp, rfl, -⟩ := sp
  have d11 : Below w10.heap.size w10 w11 := below_step (by repeat (first | exact Below.refl _ _ | refine below_drewN ?_ _ | refine Below.drew ?_ | refine Below.setCell ?_ (by first | (simp; done) | (simp; omega) | omega) _ | refine Below.alloc ?_ (by first | (simp; done) | (simp; omega) | omega) _)) b11
  have B11 := Lib.hid (below_step B10.out d11)
  have A11 := A10.keep d11
  have Bb11 := Bb10.keep d11
  have Y11 := Y10.keep d11
  clear A10 Bb10 Y10 b11 d11 B10
  clear A11
  clear Bb11
  clear Y11 aY
  have hl2 := HL2.out
  go_wp2_with fail
  have BW := Lib.hid B11.out
  go_loopw [13, 85] (fun c i wr => ∃ k : Nat, k ≤ l.length ∧ i = .int .i64 k ∧ c = .int .i64 (Sp.cnt (l.take k) t) ∧ Below w.heap.size w wr ∧ SpV wr (.slice Ap l.length cp) l) (fun _ i _ => l.length - (intOf i).toNat)
  case atStart => exact ⟨0, Nat.zero_le _, rfl, by simp [Sp.cnt], BW.out, Sp_11.out⟩
  case round =>
    obtain ⟨k, hk, rfl, rfl, hb, hs⟩ := hrel
    have HB := Lib.hid hb
    have HS := Lib.hid hs
    clear hb hs
    by_cases hlt : k < l.length
    · obtain ⟨a, rfl, -, g1, g2⟩ := HS.out.get k hlt
      have SN := Lib.hid (Sp.cnt_snoc l t k hlt)
      have RB := Lib.hid (HR.out l[k] (List.getElem_mem hlt))
      generalize l[k].1 = u at *
      generalize l[k].2 = v at *
      have cb := Sp.cnt_bd (l.take k) t
      have cl : (l.take k).length ≤ 2 := Nat.le_trans (List.length_take_le _ _) (by omega)
      generalize hc : Sp.cnt (l.take k) t = c at *
      have c0 : 0 ≤ c := cb.1
      have c1 : c ≤ 2 := by omega
      clear cb cl hc
      have i0 : (0 : Int) ≤ k := by omega
      have i1 : (k : Int) < l.length := by omega
      cases hh : Sp.hs u v t
      all_goals
        have HH := Lib.hid hh
        rw [hh] at SN
        clear hh
        go_wp2_with fail
        refine (span_right u v _).mono ?_; rintro e v1 ⟨rfl, b1⟩
        rw [RB.out]
        have D1 : Below wr.heap.size wr v1 := below_step (by repeat (first | exact Below.refl _ _ | refine Below.setCell ?_ (by first | (simp; done) | (simp; omega)) _ | refine Below.alloc ?_ (by first | (simp; done) | (simp; omega)) _)) b1
        have Q1 : Bk2 v1 wr.heap.size (.int .i64 u) (.int .i64 v) := Bk2.of b1 (by simp <;> omega) (by intro j; simp [go_sem]) (by simp [go_sem]) (by simp [go_sem])
        have DD1 := Lib.hid D1
        clear b1 D1
        have q0 := Q1.k0; have q1 := Q1.k1
        clear Q1
        go_wp2_with fail
        refine (span_has u v t _).mono ?_; rintro e v2 ⟨rfl, b2⟩
        rw [HH.out]
        have DD2 := Lib.hid (below_step DD1.out b2)
        clear q0 q1 b2 DD1
        go_wp2
        go_roundw
        case rel => exact ⟨k + 1, by omega, by go_num, by rw [SN.out]; first | rfl | (simp [Sp.bi]), below_step HB.out DD2.out, HS.out.on DD2.out⟩
        case measure => simp [intOf]; omega
    · have hkk : k = l.length := by omega
      have e : Sp.cnt (l.take k) t = Sp.bi (false && !o) := by rw [hkk, List.take_length]; exact HC.out
      rw [e]
      clear e
      cases o
      all_goals
        simp only [Sp.bi, Bool.and_true, Bool.and_false, Bool.not_false, Bool.not_true, Bool.true_and, Bool.false_and, if_true, Bool.false_eq_true, if_false]
        go_wp2
        go_ret
        exact ⟨rfl, HB.out⟩
set_option maxHeartbeats 8000000 in
set_option maxRecDepth 100000 in
theorem ssec_false_ff (x0 x1 y0 y1 t : Int) (w : World) (hi : Sp.hs x0 x1 t = false) (hm : Sp.mt x0 x1 y0 y1 = false) (hj : Sp.jn x0 x1 y0 y1 = false) :
    Calls Try.prog 11 #[.agg #[.int .i64 x0, .int .i64 x1], .agg #[.int .i64 y0, .int .i64 y1], .int .i64 t] w fun e w' => e = .returned (.bool true) ∧ Below w.heap.size w w' := by
  have HI := Lib.hid hi
  have HM := Lib.hid hm
  have HM2 := Lib.hid ((Sp.mt_comm x0 x1 y0 y1).trans hm)
  have HJ := Lib.hid hj
  have HX : Hid (Sp.hs (Sp.bz false (max x0 y0)) (Sp.bz false (min x1 y1)) t = (false && Sp.hs y0 y1 t)) := Lib.hid (by have q := Sp.hs_both x0 x1 y0 y1 t; rw [hm, hi] at q; exact q)
  have HY : Hid (false = true → Sp.hs (min x0 y0) (max x1 y1) t = (false || Sp.hs y0 y1 t)) := Lib.hid (by intro e; rw [← hi]; exact Sp.hs_join x0 x1 y0 y1 t (hj.trans e))
  have HT : Hid (false = false → Sp.tc x0 x1 y0 y1 = false) := Lib.hid (by intro e; rw [← hj]; unfold Sp.jn; rw [hm, e]; rfl)
  have HR := Lib.hid (fun p (h : p ∈ Sp.less x0 x1 y0 y1) => Sp.less_right h)
  have HC : Hid (Sp.cnt (Sp.less x0 x1 y0 y1) t = Sp.bi (false && !Sp.hs y0 y1 t)) := Lib.hid (by rw [← hi]; exact Sp.less_cnt x0 x1 y0 y1 t)
  have HL2 := Lib.hid (less_len2 x0 x1 y0 y1)
  have SL := Lib.hid (sless_any x0 x1 y0 y1)
  generalize Sp.less x0 x1 y0 y1 = l at HR HC SL HL2
  generalize ho : Sp.hs y0 y1 t = o at HX HY HC
  have HO := Lib.hid ho
  generalize hp0 : Sp.bz false (max x0 y0) = p0 at HX
  generalize hp1 : Sp.bz false (min x1 y1) = p1 at HX
  have HP0 := Lib.hid hp0
  have HP1 := Lib.hid hp1
  clear hi hm hj ho hp0 hp1
  go_enter Try.func11, Try.ntmps11
  go_wp2_with fail
  refine (lives10 _).mono ?_; rintro e w1 ⟨rfl, b1⟩
  have d1 : Below w.heap.size w w1 := below_step (by repeat (first | exact Below.refl _ _ | refine below_drewN ?_ _ | refine Below.drew ?_ | refine Below.setCell ?_ (by first | (simp; done) | (simp; omega) | omega) _ | refine Below.alloc ?_ (by first | (simp; done) | (simp; omega) | omega) _)) b1
  have B1 := Lib.hid d1
  have A1 : Bk2 w1 (w.heap.size) (.int .i64 x0) (.int .i64 x1) := Bk2.of b1 (by simp <;> omega) (by intro j; simp [go_sem]) (by simp [go_sem]) (by simp [go_sem])
  have Bb1 : Bk2 w1 (w.heap.size + 1) (.int .i64 y0) (.int .i64 y1) := Bk2.of b1 (by simp <;> omega) (by intro j; simp [go_sem]) (by simp [go_sem]) (by simp [go_sem])
  clear b1 d1
  have cA_b := A1.hb
  have cA_f := A1.fz
  have cA_0 := A1.k0
  have cA_1 := A1.k1
  have cBb_b := Bb1.hb
  have cBb_f := Bb1.fz
  have cBb_0 := Bb1.k0
  have cBb_1 := Bb1.k1
  go_wp2_with fail
  clear cA_b cA_f cA_0 cA_1 cBb_b cBb_f cBb_0 cBb_1
  have qA_0 := cell_regrown A1.k0
  have qA_1 := cell_regrown A1.k1
  have qBb_0 := cell_regrown Bb1.k0
  have qBb_1 := cell_regrown Bb1.k1
  refine wp_region_qb (w := w1) (by kernel_rfl) (by kernel_rfl) (by repeat (first | exact Below.refl _ _ | refine below_drewN ?_ _ | refine Below.drew ?_ | refine Below.setCell ?_ (by first | (simp; done) | (simp; omega) | omega) _ | refine Below.alloc ?_ (by first | (simp; done) | (simp; omega) | omega) _)) ?_
  repeat (any_goals (first | go_big_quiet_step (first | (go_at_call 48; exact Calls.regrown_of (span_has _ _ _ _))) | quiet_step (first | (go_at_call 48; exact Calls.regrown_of (span_has _ _ _ _)))))
  refine wpQuiet_nil ?_
  intro w2 hq
  have b2 : Below w1.heap.size w1 w2 := by obtain ⟨p, hq⟩ := hq; rw [hq]; exact below_regrown _ _ _
  clear hq qA_0 qA_1 qBb_0 qBb_1
  have d2 : Below w1.heap.size w1 w2 := below_step (by repeat (first | exact Below.refl _ _ | refine below_drewN ?_ _ | refine Below.drew ?_ | refine Below.setCell ?_ (by first | (simp; done) | (simp; omega) | omega) _ | refine Below.alloc ?_ (by first | (simp; done) | (simp; omega) | omega) _)) b2
  have B2 := Lib.hid (below_step B1.out d2)
  have A2 := A1.keep d2
  have Bb2 := Bb1.keep d2
  clear A1 Bb1 b2 d2 B1
  rw [HI.out, HO.out]
  have cA_b := A2.hb
  have cA_f := A2.fz
  have cA_0 := A2.k0
  have cA_1 := A2.k1
  have cBb_b := Bb2.hb
  have cBb_f := Bb2.fz
  have cBb_0 := Bb2.k0
  have cBb_1 := Bb2.k1
  go_wp2_with fail
  clear cA_b cA_f cA_0 cA_1 cBb_b cBb_f cBb_0 cBb_1
  refine (span_both x0 x1 y0 y1 _).mono ?_; rintro e w3 ⟨rfl, b3⟩
  have d3 : Below w2.heap.size w2 w3 := below_step (by repeat (first | exact Below.refl _ _ | refine below_drewN ?_ _ | refine Below.drew ?_ | refine Below.setCell ?_ (by first | (simp; done) | (simp; omega) | omega) _ | refine Below.alloc ?_ (by first | (simp; done) | (simp; omega) | omega) _)) b3
  have B3 := Lib.hid (below_step B2.out d3)
  have A3 := A2.keep d3
  have Bb3 := Bb2.keep d3
  clear A2 Bb2 b3 d3 B2
  rw [HM.out, HP0.out, HP1.out]
  have cA_b := A3.hb
  have cA_f := A3.fz
  have cA_0 := A3.k0
  have cA_1 := A3.k1
  have cBb_b := Bb3.hb
  have cBb_f := Bb3.fz
  have cBb_0 := Bb3.k0
  have cBb_1 := Bb3.k1
  go_wp2_with fail
  clear cA_b cA_f cA_0 cA_1 cBb_b cBb_f cBb_0 cBb_1
  refine (span_meet x0 x1 y0 y1 _).mono ?_; rintro e w4 ⟨rfl, b4⟩
  have d4 : Below w3.heap.size w3 w4 := below_step (by repeat (first | exact Below.refl _ _ | refine below_drewN ?_ _ | refine Below.drew ?_ | refine Below.setCell ?_ (by first | (simp; done) | (simp; omega) | omega) _ | refine Below.alloc ?_ (by first | (simp; done) | (simp; omega) | omega) _)) b4
  have B4 := Lib.hid (below_step B3.out d4)
  have A4 := A3.keep d4
  have Bb4 := Bb3.keep d4
  have aX := B3.out.size
  have nXA := Nat.ne_of_lt A3.hb
  have oXA := Nat.ne_of_gt A3.hb
  have nXBb := Nat.ne_of_lt Bb3.hb
  have oXBb := Nat.ne_of_gt Bb3.hb
  have X4 : Bk2 w4 (w3.heap.size) (.int .i64 p0) (.int .i64 p1) := Bk2.of b4 (by simp <;> omega) (by intro j; simp [go_sem]) (by simp [go_sem]) (by simp [go_sem])
  clear A3 Bb3 b4 d4 B3
  rw [HM.out]
  have cA_b := A4.hb
  have cA_f := A4.fz
  have cA_0 := A4.k0
  have cA_1 := A4.k1
  have cBb_b := Bb4.hb
  have cBb_f := Bb4.fz
  have cBb_0 := Bb4.k0
  have cBb_1 := Bb4.k1
  have cX_b := X4.hb
  have cX_f := X4.fz
  have cX_0 := X4.k0
  have cX_1 := X4.k1
  go_wp2_with fail
  clear cA_b cA_f cA_0 cA_1 cBb_b cBb_f cBb_0 cBb_1 cX_b cX_f cX_0 cX_1
  refine (span_meet y0 y1 x0 x1 _).mono ?_; rintro e w5 ⟨rfl, b5⟩
  have d5 : Below w4.heap.size w4 w5 := below_step (by repeat (first | exact Below.refl _ _ | refine below_drewN ?_ _ | refine Below.drew ?_ | refine Below.setCell ?_ (by first | (simp; done) | (simp; omega) | omega) _ | refine Below.alloc ?_ (by first | (simp; done) | (simp; omega) | omega) _)) b5
  have B5 := Lib.hid (below_step B4.out d5)
  have A5 := A4.keep d5
  have Bb5 := Bb4.keep d5
  have X5 := X4.keep d5
  clear A4 Bb4 X4 b5 d5 B4
  rw [HM2.out]
  have cA_b := A5.hb
  have cA_f := A5.fz
  have cA_0 := A5.k0
  have cA_1 := A5.k1
  have cBb_b := Bb5.hb
  have cBb_f := Bb5.fz
  have cBb_0 := Bb5.k0
  have cBb_1 := Bb5.k1
  have cX_b := X5.hb
  have cX_f := X5.fz
  have cX_0 := X5.k0
  have cX_1 := X5.k1
  go_wp2_with fail
  clear cA_b cA_f cA_0 cA_1 cBb_b cBb_f cBb_0 cBb_1 cX_b cX_f cX_0 cX_1
  refine (span_has p0 p1 t _).mono ?_; rintro e w6 ⟨rfl, b6⟩
  have d6 : Below w5.heap.size w5 w6 := below_step (by repeat (first | exact Below.refl _ _ | refine below_drewN ?_ _ | refine Below.drew ?_ | refine Below.setCell ?_ (by first | (simp; done) | (simp; omega) | omega) _ | refine Below.alloc ?_ (by first | (simp; done) | (simp; omega) | omega) _)) b6
  have B6 := Lib.hid (below_step B5.out d6)
  have A6 := A5.keep d6
  have Bb6 := Bb5.keep d6
  have X6 := X5.keep d6
  clear A5 Bb5 X5 b6 d6 B5
  rw [HX.out]
  simp only [Bool.true_and, Bool.false_and]
  clear X6 aX
  have cA_b := A6.hb
  have cA_f := A6.fz
  have cA_0 := A6.k0
  have cA_1 := A6.k1
  have cBb_b := Bb6.hb
  have cBb_f := Bb6.fz
  have cBb_0 := Bb6.k0
  have cBb_1 := Bb6.k1
  go_wp2_with fail
  clear cA_b cA_f cA_0 cA_1 cBb_b cBb_f cBb_0 cBb_1
  refine (span_join x0 x1 y0 y1 _).mono ?_; rintro e w7 ⟨rfl, b7⟩
  have d7 : Below w6.heap.size w6 w7 := below_step (by repeat (first | exact Below.refl _ _ | refine below_drewN ?_ _ | refine Below.drew ?_ | refine Below.setCell ?_ (by first | (simp; done) | (simp; omega) | omega) _ | refine Below.alloc ?_ (by first | (simp; done) | (simp; omega) | omega) _)) b7
  have B7 := Lib.hid (below_step B6.out d7)
  have A7 := A6.keep d7
  have Bb7 := Bb6.keep d7
  clear A6 Bb6 b7 d7 B6
  rw [HJ.out]
  simp only [Sp.bz, Bool.false_eq_true, if_false]
  have cA_b := A7.hb
  have cA_f := A7.fz
  have cA_0 := A7.k0
  have cA_1 := A7.k1
  have cBb_b := Bb7.hb
  have cBb_f := Bb7.fz
  have cBb_0 := Bb7.k0
  have cBb_1 := Bb7.k1
  go_wp2_with fail
  clear cA_b cA_f cA_0 cA_1 cBb_b cBb_f cBb_0 cBb_1
  refine (span_meet x0 x1 y0 y1 _).mono ?_; rintro e w8 ⟨rfl, b8⟩
  have d8 : Below w7.heap.size w7 w8 := below_step (by repeat (first | exact Below.refl _ _ | refine below_drewN ?_ _ | refine Below.drew ?_ | refine Below.setCell ?_ (by first | (simp; done) | (simp; omega) | omega) _ | refine Below.alloc ?_ (by first | (simp; done) | (simp; omega) | omega) _)) b8
  have B8 := Lib.hid (below_step B7.out d8)
  have A8 := A7.keep d8
  have Bb8 := Bb7.keep d8
  have aY := B7.out.size
  have nYA := Nat.ne_of_lt A7.hb
  have oYA := Nat.ne_of_gt A7.hb
  have nYBb := Nat.ne_of_lt Bb7.hb
  have oYBb := Nat.ne_of_gt Bb7.hb
  have Y8 : Bk2 w8 (w7.heap.size) (.int .i64 0) (.int .i64 0) := Bk2.of b8 (by simp <;> omega) (by intro j; simp [go_sem]) (by simp [go_sem]) (by simp [go_sem])
  clear A7 Bb7 b8 d8 B7
  rw [HM.out]
  have cA_b := A8.hb
  have cA_f := A8.fz
  have cA_0 := A8.k0
  have cA_1 := A8.k1
  have cBb_b := Bb8.hb
  have cBb_f := Bb8.fz
  have cBb_0 := Bb8.k0
  have cBb_1 := Bb8.k1
  have cY_b := Y8.hb
  have cY_f := Y8.fz
  have cY_0 := Y8.k0
  have cY_1 := Y8.k1
  go_wp2_with fail
  clear cA_b cA_f cA_0 cA_1 cBb_b cBb_f cBb_0 cBb_1 cY_b cY_f cY_0 cY_1
  refine (span_touch x0 x1 y0 y1 _).mono ?_; rintro e w9 ⟨rfl, b9⟩
  have d9 : Below w8.heap.size w8 w9 := below_step (by repeat (first | exact Below.refl _ _ | refine below_drewN ?_ _ | refine Below.drew ?_ | refine Below.setCell ?_ (by first | (simp; done) | (simp; omega) | omega) _ | refine Below.alloc ?_ (by first | (simp; done) | (simp; omega) | omega) _)) b9
  have B9 := Lib.hid (below_step B8.out d9)
  have A9 := A8.keep d9
  have Bb9 := Bb8.keep d9
  have Y9 := Y8.keep d9
  clear A8 Bb8 Y8 b9 d9 B8
  rw [HT.out trivial]
  skip
  skip
  have cA_b := A9.hb
  have cA_f := A9.fz
  have cA_0 := A9.k0
  have cA_1 := A9.k1
  have cBb_b := Bb9.hb
  have cBb_f := Bb9.fz
  have cBb_0 := Bb9.k0
  have cBb_1 := Bb9.k1
  have cY_b := Y9.hb
  have cY_f := Y9.fz
  have cY_0 := Y9.k0
  have cY_1 := Y9.k1
  go_wp2_with fail
  clear cA_b cA_f cA_0 cA_1 cBb_b cBb_f cBb_0 cBb_1 cY_b cY_f cY_0 cY_1
  refine (SL.out _).mono ?_; rintro e w10 ⟨_, sp, rfl, b10⟩
  have Sp_10 := Lib.hid sp; obtain ⟨Ap, cp, rfl, -⟩ := sp
  have d10 : Below w9.heap.size w9 w10 := below_step (by repeat (first | exact Below.refl _ _ | refine below_drewN ?_ _ | refine Below.drew ?_ | refine Below.setCell ?_ (by first | (simp; done) | (simp; omega) | omega) _ | refine Below.alloc ?_ (by first | (simp; done) | (simp; omega) | omega) _)) b10
  have B10 := Lib.hid (below_step B9.out d10)
  have A10 := A9.keep d10
  have Bb10 := Bb9.keep d10
  have Y10 := Y9.keep d10
  clear A9 Bb9 Y9 b10 d10 B9
  clear A10
  clear Bb10
  clear Y10 aY
  have hl2 := HL2.out
  go_wp2_with fail
  have BW := Lib.hid B10.out
  go_loopw [13, 85] (fun c i wr => ∃ k : Nat, k ≤ l.length ∧ i = .int .i64 k ∧ c = .int .i64 (Sp.cnt (l.take k) t) ∧ Below w.heap.size w wr ∧ SpV wr (.slice Ap l.length cp) l) (fun _ i _ => l.length - (intOf i).toNat)
  case atStart => exact ⟨0, Nat.zero_le _, rfl, by simp [Sp.cnt], BW.out, Sp_10.out⟩
  case round =>
    obtain ⟨k, hk, rfl, rfl, hb, hs⟩ := hrel
    have HB := Lib.hid hb
    have HS := Lib.hid hs
    clear hb hs
    by_cases hlt : k < l.length
    · obtain ⟨a, rfl, -, g1, g2⟩ := HS.out.get k hlt
      have SN := Lib.hid (Sp.cnt_snoc l t k hlt)
      have RB := Lib.hid (HR.out l[k] (List.getElem_mem hlt))
      generalize l[k].1 = u at *
      generalize l[k].2 = v at *
      have cb := Sp.cnt_bd (l.take k) t
      have cl : (l.take k).length ≤ 2 := Nat.le_trans (List.length_take_le _ _) (by omega)
      generalize hc : Sp.cnt (l.take k) t = c at *
      have c0 : 0 ≤ c := cb.1
      have c1 : c ≤ 2 := by omega
      clear cb cl hc
      have i0 : (0 : Int) ≤ k := by omega
      have i1 : (k : Int) < l.length := by omega
      cases hh : Sp.hs u v t
      all_goals
        have HH := Lib.hid hh
        rw [hh] at SN
        clear hh
        go_wp2_with fail
        refine (span_right u v _).mono ?_; rintro e v1 ⟨rfl, b1⟩
        rw [RB.out]
        have D1 : Below wr.heap.size wr v1 := below_step (by repeat (first | exact Below.refl _ _ | refine Below.setCell ?_ (by first | (simp; done) | (simp; omega)) _ | refine Below.alloc ?_ (by first | (simp; done) | (simp; omega)) _)) b1
        have Q1 : Bk2 v1 wr.heap.size (.int .i64 u) (.int .i64 v) := Bk2.of b1 (by simp <;> omega) (by intro j; simp [go_sem]) (by simp [go_sem]) (by simp [go_sem])
        have DD1 := Lib.hid D1
        clear b1 D1
        have q0 := Q1.k0; have q1 := Q1.k1
        clear Q1
        go_wp2_with fail
        refine (span_has u v t _).mono ?_; rintro e v2 ⟨rfl, b2⟩
        rw [HH.out]
        have DD2 := Lib.hid (below_step DD1.out b2)
        clear q0 q1 b2 DD1
        go_wp2
        go_roundw
        case rel => exact ⟨k + 1, by omega, by go_num, by rw [SN.out]; first | rfl | (simp [Sp.bi]), below_step HB.out DD2.out, HS.out.on DD2.out⟩
        case measure => simp [intOf]; omega
    · have hkk : k = l.length := by omega
      have e : Sp.cnt (l.take k) t = Sp.bi (false && !o) := by rw [hkk, List.take_length]; exact HC.out
      rw [e]
      clear e
      cases o
      all_goals
        simp only [Sp.bi, Bool.and_true, Bool.and_false, Bool.not_false, Bool.not_true, Bool.true_and, Bool.false_and, if_true, Bool.false_eq_true, if_false]
        go_wp2
        go_ret
        exact ⟨rfl, HB.out⟩
theorem ssec_walk (x0 x1 y0 y1 t : Int) (w : World) :
    Calls Try.prog 11 #[.agg #[.int .i64 x0, .int .i64 x1], .agg #[.int .i64 y0, .int .i64 y1], .int .i64 t] w fun e w' => e = .returned (.bool true) ∧ Below w.heap.size w w' := by
  cases hi : Sp.hs x0 x1 t <;> cases hm : Sp.mt x0 x1 y0 y1
  · cases hj : Sp.jn x0 x1 y0 y1
    · exact ssec_false_ff x0 x1 y0 y1 t w hi hm hj
    · exact ssec_false_fc x0 x1 y0 y1 t w hi hm hj
  · exact ssec_false_t x0 x1 y0 y1 t w hi hm (by unfold Sp.jn; rw [hm]; rfl)
  · cases hj : Sp.jn x0 x1 y0 y1
    · exact ssec_true_ff x0 x1 y0 y1 t w hi hm hj
    · exact ssec_true_fc x0 x1 y0 y1 t w hi hm hj
  · exact ssec_true_t x0 x1 y0 y1 t w hi hm (by unfold Sp.jn; rw [hm]; rfl)
end Go.Proofs.Ytpjddkcoolggaab

