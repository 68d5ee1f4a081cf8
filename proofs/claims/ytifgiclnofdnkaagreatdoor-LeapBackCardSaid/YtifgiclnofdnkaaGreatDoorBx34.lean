/- Joined: LpX. -/
import Derived.Test.YtifgiclnofdnkaaGreatDoorBx01
import Derived.Test.YtifgiclnofdnkaaGreatDoorBx33
set_option linter.unusedVariables false
set_option linter.unusedSimpArgs false
namespace Go.Proofs.YtifgiclnofdnkaaGreatDoor
open Go.RowKit Go.Sort
namespace Lp
theorem left_take (l : List X) (t : Int) (k : Nat) (hk : k < l.length) : left (l.take (k + 1)) t = (left (l.take k) t || decide (l[k].2 = -1 ∧ l[k].1 = t + 1)) := by
 rw [List.take_succ_eq_append_getElem hk]
 unfold left
 rw [List.any_append]
 simp
theorem gn_ok {l : List X} {t : Int} (hr : right l = true) (h0 : -1096193779200 ≤ t) (h1 : t ≤ 971890963199) : gn l t = (gone l t, 0) := by
 unfold gn; rw [if_pos hr, if_pos ⟨h0, h1⟩]
theorem uT_in {l : List X} {n : Int} (hr : right l = true) (h : inR l n) : -1096193779200 ≤ uT l n ∧ uT l n ≤ 971890963199 := by
 have iu := (uT_is (n := n) hr).1
 refine ⟨?_, iu.top⟩
 by_cases hlt : uT l n < -1096193779200
 ·
  have := iu.next (-1096193779200) hlt (by omega); have := h.1; omega
 ·
  omega
theorem ut_gone {l : List X} {t : Int} (hr : right l = true) (h0 : -1096193779200 ≤ t) (h1 : t ≤ 971890963199) : ut l (gone l t) = ((if left l t = true then t + 1 else t), false, 0) := by
 obtain ⟨z1, z2, z3⟩ := right_of hr
 have hst : ∀ x ∈ l, x.2 = 1 ∨ x.2 = -1 := fun x hx => (z2 x hx).2.2
 have m1 := gone_mono l z3 hst (-1096193779200) t h0
 have m2 := gone_mono l z3 hst t 971890963199 h1
 have hi : inR l (gone l t) := ⟨m1, by omega⟩
 have iu := (uT_is (n := gone l t) hr).1
 obtain ⟨e1, e2⟩ := utc_gone l t (uT l (gone l t)) z3 z2 h1 iu.le iu.top iu.next
 unfold ut
 rw [if_pos hr, if_pos hi, e2, decide_eq_false (by omega), e1]
end Lp
set_option maxHeartbeats 16000000 in
set_option maxRecDepth 100000 in
theorem leap_back (A : Option Addr) (n c : Nat) (l : List Lp.X) (t u : Int) (w : World) (h : SpV w (.slice A n c) l) (hc : n ≤ c) (hcb : c ≤ 9223372036854775807)
  (T : Lib.TabIs Tryz.prog w "internal/strconv.uint64pow10" .u64 Lib.pow10Tab) (m : Int) (hm : w.cell? ⟨0, 0, none⟩ = some (.int .i64 m)) :
  Calls Tryz.prog 4 #[.slice A n c, .int .i64 t, .int .i64 u] w fun e w' => e = .returned (.bool true) ∧ Below w.heap.size w w' := by
 have hn := h.len
 have TT := Lib.hid T
 have MX := Lib.hid (fun W (hW : Below w.heap.size w W) => (hW.cell (p := ⟨0, 0, none⟩) (World.block_lt_of_cell? _ _ hm)).trans hm)
 have LV := Lib.hid (fun W (B : Below w.heap.size w W) => lives53 W (var_keep B TT.out) m (MX.out W B))
 clear T hm
 have HW := Lib.hid h
 by_cases h1 : 100 < n
 case pos =>
  have g : (100 : Int) < (n : Int) := by omega
  clear h h1 hn
  go_enter Tryz.func4, Tryz.ntmps4
  go_wp2_with fail
  refine (LV.out _ (Below.refl _ _)).mono ?_; rintro e w1 ⟨rfl, b1⟩
  have d1 : Below w.heap.size w w1 := below_step gr0 b1
  have B1 := Lib.hid d1
  clear b1 d1
  go_wp2_with fail
  go_ret
  exact ⟨rfl, (grB B1)⟩
 have g : ¬ (100 : Int) < (n : Int) := by omega
 have hl : l.length ≤ 1000000 := by omega
 have hl9 : n ≤ 100 := by omega
 have GN := Lib.hid (fun W t (S : SpV W (.slice A n c) l) => leGone_any A n c l W S hc hcb hl t)
 have UT := Lib.hid (fun W u (S : SpV W (.slice A n c) l) => leUtc_any A n c l W S hc hcb hl u)
 have XA := Lib.hid (fun W (S : SpV W (.slice A n c) l) T => leText_any A n c l W S hl T)
 have RA := Lib.hid (fun W (S : SpV W (.slice A n c) l) => leright_any (.slice A n c) l W S hl)
 have RD : Hid (∀ (s : ByteArray) W, W.cell? ⟨0, 0, none⟩ = some (.int .i64 m) → Calls Tryz.prog 12 #[.string s] W fun e w' => ∃ v, SpV w' v (Lp.rd s.data.toList).1 ∧ e = .returned (.tuple #[v, .agg #[.int .i64 (Lp.rd s.data.toList).2.1, .int .i64 (Lp.rd s.data.toList).2.2]]) ∧ Below W.heap.size W w') := Lib.hid (fun s W hm => (leRead_any s W m hm).mono (fun _ _ ⟨v, h1, h2, h3⟩ => ⟨v, h1.st, h2, h3⟩))
 have HN := Lib.hid hn
 clear h h1
 by_cases hr : Lp.right l = true
 case neg =>
  have GA := Lib.hid (fun W S => GN.out W t S)
  have UA := Lib.hid (fun W S => UT.out W u S)
  rw [show Lp.gn l t = (0, 4) by unfold Lp.gn; rw [if_neg hr]] at GA
  rw [show Lp.ut l u = (0, false, 4) by unfold Lp.ut; rw [if_neg hr]] at UA
  rw [show Lp.tx l = ([], 4) by unfold Lp.tx; rw [if_neg hr]] at XA
  have RE := Lib.hid (RD.out ⟨#[]⟩)
  rw [show Lp.rd (⟨#[]⟩ : ByteArray).data.toList = ([], 0, 0) by decide +kernel] at RE
  have hr : Lp.right l = false := by simpa using hr
  rw [hr] at RA
  dsimp only at GA UA XA RE
  rw [show (⟨([] : List UInt8).toArray⟩ : ByteArray) = ⟨#[]⟩ from rfl] at XA
  clear hr hn hl GN UT RD
  go_enter Tryz.func4, Tryz.ntmps4
  go_wp2_with fail
  refine (LV.out _ (Below.refl _ _)).mono ?_; rintro e w1 ⟨rfl, b1⟩
  have d1 : Below w.heap.size w w1 := below_step gr0 b1
  have B1 := Lib.hid d1
  have SL_1 := Lib.hid (HW.out.on d1)
  clear HW b1 d1
  go_wp2_with fail
  refine (GA.out _ SL_1.out).mono ?_; rintro e w2 ⟨rfl, b2⟩
  have d2 : Below w1.heap.size w1 w2 := below_step gr0 b2
  have B2 := Lib.hid (below_step B1.out d2)
  have SL_2 := Lib.hid (SL_1.out.on d2)
  clear SL_1 b2 d2 B1
  go_wp2_with fail
  refine (UA.out _ SL_2.out).mono ?_; rintro e w3 ⟨rfl, b3⟩
  have d3 : Below w2.heap.size w2 w3 := below_step gr0 b3
  have B3 := Lib.hid (below_step B2.out d3)
  have SL_3 := Lib.hid (SL_2.out.on d3)
  clear SL_2 b3 d3 B2
  go_wp2_with fail
  refine (XA.out _ SL_3.out (var_keep B3.out TT.out)).mono ?_; rintro e w4 ⟨rfl, b4⟩
  have d4 : Below w3.heap.size w3 w4 := below_step gr0 b4
  have B4 := Lib.hid (below_step B3.out d4)
  have SL_4 := Lib.hid (SL_3.out.on d4)
  clear SL_3 b4 d4 B3
  go_wp2_with fail
  refine (RE.out _ (MX.out _ B4.out)).mono ?_; rintro e w5 ⟨_, sP, rfl, b5⟩
  have SP_5 := Lib.hid sP; obtain ⟨AP, cP, rfl, -⟩ := sP
  have d5 : Below w4.heap.size w4 w5 := below_step gr0 b5
  have B5 := Lib.hid (below_step B4.out d5)
  have SL_5 := Lib.hid (SL_4.out.on d5)
  clear SL_4 b5 d5 B4
  go_wp2_with fail
  refine (RA.out _ (SL_5.out.on gr0)).mono ?_; rintro e w6 ⟨rfl, b6⟩
  have d6 : Below w5.heap.size w5 w6 := below_step gr0 b6
  have B6 := Lib.hid (below_step B5.out d6)
  have SL_6 := Lib.hid (SL_5.out.on d6)
  have SP_6 := Lib.hid (SP_5.out.on d6)
  have aF := B5.out.size
  have F6 : Bk2 w6 (w5.heap.size) (.int .i64 0) (.int .i64 0) := by refine Bk2.of b6 (by simp <;> omega) (by intro j; simp [go_sem]) ?_ ?_ <;> simp [go_sem]
  clear SL_5 SP_5 b6 d6 B5
  have tx := F6; obtain ⟨cF_b, cF_f, cF_0, cF_1⟩ := tx
  go_wp2_with fail
  clear cF_b cF_f cF_0 cF_1
  go_ret
  exact ⟨rfl, (grB B6)⟩
 have HR := Lib.hid hr
 obtain ⟨z1, z2, z3⟩ := Lp.right_of hr
 have hst : ∀ x ∈ l, x.2 = 1 ∨ x.2 = -1 := fun x hx => (z2 x hx).2.2
 -- the text, read
 obtain ⟨TXT, hTX⟩ : ∃ x : ByteArray, x = ⟨(Lp.tx l).1.toArray⟩ := ⟨_, rfl⟩
 have RE := Lib.hid (RD.out TXT)
 rw [show Lp.rd TXT.data.toList = (l, 0, 0) by rw [hTX]; exact Lp.back hr] at RE
 rw [← hTX, show (Lp.tx l).2 = 0 by unfold Lp.tx; rw [if_pos hr]] at XA
 dsimp only at RE
 have SM := Lib.hid (fun v1 v2 W S1 S2 => lesame_yes v1 v2 l W S1 S2 hl)
 -- the number, its second, that second's number
 have hu : (∃ q, Lp.ut l u = (0, false, q) ∧ q = 1) ∨ (∃ d, Lp.ut l u = (d, decide (Lp.gone l d < u), 0) ∧ (-1096193779200 ≤ d ∧ d ≤ 971890963199) ∧ (Lp.gone l d = u ∨ Lp.gone l d = u - 1) ∧ -2000000000000 ≤ u ∧ u ≤ 2000000000000) := by
  by_cases hi : Lp.inR l u
  ·
   refine .inr ⟨Lp.uT l u, by unfold Lp.ut; rw [if_pos hr, if_pos hi], Lp.uT_in hr hi, ?_, ?_⟩
   ·
    have iu := (Lp.uT_is (n := u) hr).1
    exact Lp.gone_utc l u (Lp.uT l u) z3 z2 hi.2 iu.le iu.top iu.next
   ·
    have b1 := Lp.gone_bd hr (-1096193779200)
    have b2 := Lp.gone_bd hr 971890963199
    have := hi.1; have := hi.2
    omega
  ·
   exact .inl ⟨1, by unfold Lp.ut; rw [if_pos hr, if_neg hi], rfl⟩
 have HU := Lib.hid hu
 clear hu hTX RD
 by_cases ht : -1096193779200 ≤ t ∧ t ≤ 971890963199
 case neg =>
  have GA := Lib.hid (fun W S => GN.out W t S)
  rw [show Lp.gn l t = (0, 1) by unfold Lp.gn; rw [if_pos hr, if_neg ht]] at GA
  dsimp only at GA
  clear hr hn hl ht z1 z2 z3 hst
  go_enter Tryz.func4, Tryz.ntmps4
  go_wp2_with fail
  refine (LV.out _ (Below.refl _ _)).mono ?_; rintro e w1 ⟨rfl, b1⟩
  have d1 : Below w.heap.size w w1 := below_step gr0 b1
  have B1 := Lib.hid d1
  have SL_1 := Lib.hid (HW.out.on d1)
  clear HW b1 d1
  go_wp2_with fail
  refine (GA.out _ SL_1.out).mono ?_; rintro e w2 ⟨rfl, b2⟩
  have d2 : Below w1.heap.size w1 w2 := below_step gr0 b2
  have B2 := Lib.hid (below_step B1.out d2)
  have SL_2 := Lib.hid (SL_1.out.on d2)
  clear SL_1 b2 d2 B1
  rcases HU.out with ⟨q, hq, rfl⟩ | ⟨d, hq, ⟨d0, d1⟩, hg, u0, u1⟩
  ·
   have UD := Lib.hid (fun W S => UT.out W u S)
   rw [hq] at UD
   dsimp only at UD
   clear hq HU UT GN
   go_wp2_with fail
   refine (UD.out _ SL_2.out).mono ?_; rintro e w3 ⟨rfl, b3⟩
   have d3 : Below w2.heap.size w2 w3 := below_step gr0 b3
   have B3 := Lib.hid (below_step B2.out d3)
   have SL_3 := Lib.hid (SL_2.out.on d3)
   clear SL_2 b3 d3 B2
   go_wp2_with fail
   refine (XA.out _ SL_3.out (var_keep B3.out TT.out)).mono ?_; rintro e w4 ⟨rfl, b4⟩
   have d4 : Below w3.heap.size w3 w4 := below_step gr0 b4
   have B4 := Lib.hid (below_step B3.out d4)
   have SL_4 := Lib.hid (SL_3.out.on d4)
   clear SL_3 b4 d4 B3
   go_wp2_with fail
   refine (RE.out _ (MX.out _ B4.out)).mono ?_; rintro e w5 ⟨_, sP, rfl, b5⟩
   have SP_5 := Lib.hid sP; obtain ⟨AP, cP, rfl, -⟩ := sP
   have d5 : Below w4.heap.size w4 w5 := below_step gr0 b5
   have B5 := Lib.hid (below_step B4.out d5)
   have SL_5 := Lib.hid (SL_4.out.on d5)
   clear SL_4 b5 d5 B4
   go_wp2_with fail
   refine (SM.out _ _ _ (SP_5.out.on gr0) (SL_5.out.on gr0)).mono ?_; rintro e w6 ⟨rfl, b6⟩
   have d6 : Below w5.heap.size w5 w6 := below_step gr0 b6
   have B6 := Lib.hid (below_step B5.out d6)
   have SL_6 := Lib.hid (SL_5.out.on d6)
   have SP_6 := Lib.hid (SP_5.out.on d6)
   have aF := B5.out.size
   have F6 : Bk2 w6 (w5.heap.size) (.int .i64 0) (.int .i64 0) := by refine Bk2.of b6 (by simp <;> omega) (by intro j; simp [go_sem]) ?_ ?_ <;> simp [go_sem]
   clear SL_5 SP_5 b6 d6 B5
   have tx := F6; obtain ⟨cF_b, cF_f, cF_0, cF_1⟩ := tx
   go_wp2_with fail
   clear cF_b cF_f cF_0 cF_1
   go_ret
   exact ⟨rfl, (grB B6)⟩
  ·
   have GE := Lib.hid (fun W S => GN.out W d S)
   rw [Lp.gn_ok HR.out d0 d1] at GE
   have UD := Lib.hid (fun W S => UT.out W u S)
   rw [hq] at UD
   dsimp only at UD GE
   clear hq HU UT GN
   rcases hg with hg | hg
   ·
    rw [hg] at UD GE
    rw [decide_eq_false (by omega)] at UD
    clear hg
    go_wp2_with fail
    refine (UD.out _ SL_2.out).mono ?_; rintro e w3 ⟨rfl, b3⟩
    have d3 : Below w2.heap.size w2 w3 := below_step gr0 b3
    have B3 := Lib.hid (below_step B2.out d3)
    have SL_3 := Lib.hid (SL_2.out.on d3)
    clear SL_2 b3 d3 B2
    go_wp2_with fail
    refine (GE.out _ SL_3.out).mono ?_; rintro e w4 ⟨rfl, b4⟩
    have d4 : Below w3.heap.size w3 w4 := below_step gr0 b4
    have B4 := Lib.hid (below_step B3.out d4)
    have SL_4 := Lib.hid (SL_3.out.on d4)
    clear SL_3 b4 d4 B3
    go_wp2_with fail
    refine (XA.out _ SL_4.out (var_keep B4.out TT.out)).mono ?_; rintro e w5 ⟨rfl, b5⟩
    have d5 : Below w4.heap.size w4 w5 := below_step gr0 b5
    have B5 := Lib.hid (below_step B4.out d5)
    have SL_5 := Lib.hid (SL_4.out.on d5)
    clear SL_4 b5 d5 B4
    go_wp2_with fail
    refine (RE.out _ (MX.out _ B5.out)).mono ?_; rintro e w6 ⟨_, sP, rfl, b6⟩
    have SP_6 := Lib.hid sP; obtain ⟨AP, cP, rfl, -⟩ := sP
    have d6 : Below w5.heap.size w5 w6 := below_step gr0 b6
    have B6 := Lib.hid (below_step B5.out d6)
    have SL_6 := Lib.hid (SL_5.out.on d6)
    clear SL_5 b6 d6 B5
    go_wp2_with fail
    refine (SM.out _ _ _ (SP_6.out.on gr0) (SL_6.out.on gr0)).mono ?_; rintro e w7 ⟨rfl, b7⟩
    have d7 : Below w6.heap.size w6 w7 := below_step gr0 b7
    have B7 := Lib.hid (below_step B6.out d7)
    have SL_7 := Lib.hid (SL_6.out.on d7)
    have SP_7 := Lib.hid (SP_6.out.on d7)
    have aF := B6.out.size
    have F7 : Bk2 w7 (w6.heap.size) (.int .i64 0) (.int .i64 0) := by refine Bk2.of b7 (by simp <;> omega) (by intro j; simp [go_sem]) ?_ ?_ <;> simp [go_sem]
    clear SL_6 SP_6 b7 d7 B6
    have tx := F7; obtain ⟨cF_b, cF_f, cF_0, cF_1⟩ := tx
    go_wp2_with fail
    clear cF_b cF_f cF_0 cF_1
    go_ret
    exact ⟨rfl, (grB B7)⟩
   ·
    rw [hg] at UD GE
    rw [decide_eq_true (by omega)] at UD
    clear hg
    go_wp2_with fail
    refine (UD.out _ SL_2.out).mono ?_; rintro e w3 ⟨rfl, b3⟩
    have d3 : Below w2.heap.size w2 w3 := below_step gr0 b3
    have B3 := Lib.hid (below_step B2.out d3)
    have SL_3 := Lib.hid (SL_2.out.on d3)
    clear SL_2 b3 d3 B2
    go_wp2_with fail
    refine (GE.out _ SL_3.out).mono ?_; rintro e w4 ⟨rfl, b4⟩
    have d4 : Below w3.heap.size w3 w4 := below_step gr0 b4
    have B4 := Lib.hid (below_step B3.out d4)
    have SL_4 := Lib.hid (SL_3.out.on d4)
    clear SL_3 b4 d4 B3
    go_wp2_with fail
    refine (XA.out _ SL_4.out (var_keep B4.out TT.out)).mono ?_; rintro e w5 ⟨rfl, b5⟩
    have d5 : Below w4.heap.size w4 w5 := below_step gr0 b5
    have B5 := Lib.hid (below_step B4.out d5)
    have SL_5 := Lib.hid (SL_4.out.on d5)
    clear SL_4 b5 d5 B4
    go_wp2_with fail
    refine (RE.out _ (MX.out _ B5.out)).mono ?_; rintro e w6 ⟨_, sP, rfl, b6⟩
    have SP_6 := Lib.hid sP; obtain ⟨AP, cP, rfl, -⟩ := sP
    have d6 : Below w5.heap.size w5 w6 := below_step gr0 b6
    have B6 := Lib.hid (below_step B5.out d6)
    have SL_6 := Lib.hid (SL_5.out.on d6)
    clear SL_5 b6 d6 B5
    go_wp2_with fail
    refine (SM.out _ _ _ (SP_6.out.on gr0) (SL_6.out.on gr0)).mono ?_; rintro e w7 ⟨rfl, b7⟩
    have d7 : Below w6.heap.size w6 w7 := below_step gr0 b7
    have B7 := Lib.hid (below_step B6.out d7)
    have SL_7 := Lib.hid (SL_6.out.on d7)
    have SP_7 := Lib.hid (SP_6.out.on d7)
    have aF := B6.out.size
    have F7 : Bk2 w7 (w6.heap.size) (.int .i64 0) (.int .i64 0) := by refine Bk2.of b7 (by simp <;> omega) (by intro j; simp [go_sem]) ?_ ?_ <;> simp [go_sem]
    clear SL_6 SP_6 b7 d7 B6
    have tx := F7; obtain ⟨cF_b, cF_f, cF_0, cF_1⟩ := tx
    go_wp2_with fail
    clear cF_b cF_f cF_0 cF_1
    go_ret
    exact ⟨rfl, (grB B7)⟩
 obtain ⟨t0, t1⟩ := ht
 have GA := Lib.hid (fun W S => GN.out W t S)
 rw [Lp.gn_ok hr t0 t1] at GA
 have UA := Lib.hid (fun W S => UT.out W (Lp.gone l t) S)
 rw [Lp.ut_gone hr t0 t1] at UA
 dsimp only at GA UA
 have gb := Lp.gone_bd hr t
 have gs := Lp.gone_step l t z3 hst
 have HGS := Lib.hid gs
 have HLH : Hid (Lp.left l t = true → t + 1 ≤ 971890963199) := Lib.hid (Lp.left_hi z2)
 obtain ⟨a, ha⟩ : ∃ a, a = Lp.gone l t := ⟨_, rfl⟩
 rw [← ha] at GA UA HGS gb
 obtain ⟨b, hb⟩ : ∃ b, b = if Lp.left l t = true then t + 1 else t := ⟨_, rfl⟩
 rw [← hb] at UA
 have HB := Lib.hid hb
 clear ha hb hr hn hl z1 z2 z3 hst gs
 go_enter Tryz.func4, Tryz.ntmps4
 go_wp2_with fail
 refine (LV.out _ (Below.refl _ _)).mono ?_; rintro e w1 ⟨rfl, b1⟩
 have d1 : Below w.heap.size w w1 := below_step gr0 b1
 have B1 := Lib.hid d1
 have SL_1 := Lib.hid (HW.out.on d1)
 clear HW b1 d1
 go_wp2_with fail
 refine (GA.out _ SL_1.out).mono ?_; rintro e w2 ⟨rfl, b2⟩
 have d2 : Below w1.heap.size w1 w2 := below_step gr0 b2
 have B2 := Lib.hid (below_step B1.out d2)
 have SL_2 := Lib.hid (SL_1.out.on d2)
 clear SL_1 b2 d2 B1
 go_wp2_with fail
 refine (UA.out _ SL_2.out).mono ?_; rintro e w3 ⟨rfl, b3⟩
 have d3 : Below w2.heap.size w2 w3 := below_step gr0 b3
 have B3 := Lib.hid (below_step B2.out d3)
 have SL_3 := Lib.hid (SL_2.out.on d3)
 clear SL_2 b3 d3 B2
 go_wp2_with fail
 go_loopw [12, 49] (fun gv i wr => ∃ (k : Nat) (gg : Bool), k ≤ n ∧ gv = .bool gg ∧ i = .int .i64 k ∧ Hid (gg = Lp.left (l.take k) t) ∧ Hid (Below w3.heap.size w3 wr)) (fun _ i _ => n - (intOf i).toNat)
 case atStart => exact ⟨0, false, Nat.zero_le _, rfl, rfl, Lib.hid rfl, Lib.hid (Below.refl _ _)⟩
 case round =>
  obtain ⟨k, gg, hk, rfl, rfl, hgg, hB⟩ := hrel
  by_cases hlt : k < n
  ·
   have hkl : k < l.length := by have := HN.out; omega
   obtain ⟨ad, rfl, hab, g1, g2⟩ := (SL_3.out.on hB.out).get k hkl
   have NX := Lib.hid (Lp.left_take l t k hkl)
   generalize l[k] = p at *
   obtain ⟨x, y⟩ := p
   dsimp only at g1 g2 NX
   have i1 : (k : Int) < n := by omega
   clear hkl
   cases gg
   case true =>
    have NX2 := Lib.hid (show true = Lp.left (l.take (k + 1)) t by rw [NX.out, ← hgg.out]; rfl)
    clear NX hgg HB HGS HLH HU
    go_wp2_with fail
    go_roundw
    case rel => exact ⟨k + 1, true, by omega, rfl, by go_num, NX2, Lib.hid (by have hz := hB.out.size; repeat (first | exact hB.out | refine _root_.Go.below_drewN ?_ _ | refine Below.drew ?_ | refine Below.setCell ?_ (by first | omega | (simp; done) | (simp; omega)) _ | refine Below.alloc ?_ (by first | omega | (simp; done) | (simp; omega)) _))⟩
    case measure => simp [intOf]; omega
   by_cases hy : y = -1
   ·
    subst hy
    by_cases hx : x = t + 1
    ·
     subst hx
     have NX2 := Lib.hid (show true = Lp.left (l.take (k + 1)) t by rw [NX.out, ← hgg.out]; simp)
     clear NX hgg HB HGS HLH HU
     go_wp2_with fail
     go_roundw
     case rel => exact ⟨k + 1, true, by omega, rfl, by go_num, NX2, Lib.hid (by have hz := hB.out.size; repeat (first | exact hB.out | refine _root_.Go.below_drewN ?_ _ | refine Below.drew ?_ | refine Below.setCell ?_ (by first | omega | (simp; done) | (simp; omega)) _ | refine Below.alloc ?_ (by first | omega | (simp; done) | (simp; omega)) _))⟩
     case measure => simp [intOf]; omega
    ·
     have ex : (x == t + 1) = false := by rw [beq_eq_false_iff_ne]; exact hx
     have hx2 : decide (((-1 : Int) = -1) ∧ x = t + 1) = false := decide_eq_false (fun h => hx h.2)
     have NX2 := Lib.hid (show false = Lp.left (l.take (k + 1)) t by rw [NX.out, ← hgg.out]; rw [hx2]; rfl)
     clear NX hgg HB HGS HLH HU
     go_wp2_with fail
     go_roundw
     case rel => exact ⟨k + 1, false, by omega, rfl, by go_num, NX2, Lib.hid (by have hz := hB.out.size; repeat (first | exact hB.out | refine _root_.Go.below_drewN ?_ _ | refine Below.drew ?_ | refine Below.setCell ?_ (by first | omega | (simp; done) | (simp; omega)) _ | refine Below.alloc ?_ (by first | omega | (simp; done) | (simp; omega)) _))⟩
     case measure => simp [intOf]; omega
   ·
    have ey : (y == -1) = false := by rw [beq_eq_false_iff_ne]; exact hy
    have hy2 : decide (y = -1 ∧ x = t + 1) = false := decide_eq_false (fun h => hy h.1)
    have NX2 := Lib.hid (show false = Lp.left (l.take (k + 1)) t by rw [NX.out, ← hgg.out]; rw [hy2]; rfl)
    clear NX hgg HB HGS HLH HU
    go_wp2_with fail
    go_roundw
    case rel => exact ⟨k + 1, false, by omega, rfl, by go_num, NX2, Lib.hid (by have hz := hB.out.size; repeat (first | exact hB.out | refine _root_.Go.below_drewN ?_ _ | refine Below.drew ?_ | refine Below.setCell ?_ (by first | omega | (simp; done) | (simp; omega)) _ | refine Below.alloc ?_ (by first | omega | (simp; done) | (simp; omega)) _))⟩
    case measure => simp [intOf]; omega
  ·
   have i2 : ¬ (k : Int) < n := by omega
   have GX : gg = Lp.left l t := by rw [hgg.out, List.take_of_length_le (by have := HN.out; omega)]
   rename World => w9
   have B9 := Lib.hid (below_step B3.out hB.out)
   have S9 := Lib.hid (SL_3.out.on hB.out)
   clear hgg hB
   cases hL : Lp.left l t
   ·
    rw [hL] at GX
    subst GX
    have hb : b = t := by rw [HB.out, hL]; rfl
    subst hb
    have step := HGS.out.2 hL
    clear HB HGS HLH hL
    by_cases h9 : b + 1 ≤ 971890963199
    ·
     have GC := Lib.hid (fun W S => GN.out W (b + 1) S)
     rw [Lp.gn_ok HR.out (by omega) h9] at GC
     dsimp only at GC
     generalize Lp.gone l (b + 1) = cc at GC step
     have q1 : ¬ cc < a := by omega
     have q2 : ¬ a + 2 < cc := by omega
     have q3 : (cc == a) = false := by rw [beq_eq_false_iff_ne]; omega
     have q4 : cc ≠ a := by omega
     clear step
     go_wp2_with fail
     refine (GC.out _ S9.out).mono ?_; rintro e w10 ⟨rfl, b10⟩
     have d10 : Below w9.heap.size w9 w10 := below_step gr0 b10
     have B10 := Lib.hid (below_step B9.out d10)
     have SL_10 := Lib.hid (S9.out.on d10)
     clear S9 b10 d10 B9
     rcases HU.out with ⟨q, hq, rfl⟩ | ⟨d, hq, ⟨d0, d1⟩, hg, u0, u1⟩
     ·
      have UD := Lib.hid (fun W S => UT.out W u S)
      rw [hq] at UD
      dsimp only at UD
      clear hq HU UT GN
      go_wp2_with fail
      refine (UD.out _ SL_10.out).mono ?_; rintro e w11 ⟨rfl, b11⟩
      have d11 : Below w10.heap.size w10 w11 := below_step gr0 b11
      have B11 := Lib.hid (below_step B10.out d11)
      have SL_11 := Lib.hid (SL_10.out.on d11)
      clear SL_10 b11 d11 B10
      go_wp2_with fail
      refine (XA.out _ SL_11.out (var_keep B11.out TT.out)).mono ?_; rintro e w12 ⟨rfl, b12⟩
      have d12 : Below w11.heap.size w11 w12 := below_step gr0 b12
      have B12 := Lib.hid (below_step B11.out d12)
      have SL_12 := Lib.hid (SL_11.out.on d12)
      clear SL_11 b12 d12 B11
      go_wp2_with fail
      refine (RE.out _ (MX.out _ B12.out)).mono ?_; rintro e w13 ⟨_, sP, rfl, b13⟩
      have SP_13 := Lib.hid sP; obtain ⟨AP, cP, rfl, -⟩ := sP
      have d13 : Below w12.heap.size w12 w13 := below_step gr0 b13
      have B13 := Lib.hid (below_step B12.out d13)
      have SL_13 := Lib.hid (SL_12.out.on d13)
      clear SL_12 b13 d13 B12
      go_wp2_with fail
      refine (SM.out _ _ _ (SP_13.out.on gr0) (SL_13.out.on gr0)).mono ?_; rintro e w14 ⟨rfl, b14⟩
      have d14 : Below w13.heap.size w13 w14 := below_step gr0 b14
      have B14 := Lib.hid (below_step B13.out d14)
      have SL_14 := Lib.hid (SL_13.out.on d14)
      have SP_14 := Lib.hid (SP_13.out.on d14)
      have aF := B13.out.size
      have F14 : Bk2 w14 (w13.heap.size) (.int .i64 0) (.int .i64 0) := by refine Bk2.of b14 (by simp <;> omega) (by intro j; simp [go_sem]) ?_ ?_ <;> simp [go_sem]
      clear SL_13 SP_13 b14 d14 B13
      have tx := F14; obtain ⟨cF_b, cF_f, cF_0, cF_1⟩ := tx
      go_wp2_with fail
      clear cF_b cF_f cF_0 cF_1
      go_ret
      exact ⟨rfl, (grB B14)⟩
     ·
      have GE := Lib.hid (fun W S => GN.out W d S)
      rw [Lp.gn_ok HR.out d0 d1] at GE
      have UD := Lib.hid (fun W S => UT.out W u S)
      rw [hq] at UD
      dsimp only at UD GE
      clear hq HU UT GN
      rcases hg with hg | hg
      ·
       rw [hg] at UD GE
       rw [decide_eq_false (by omega)] at UD
       clear hg
       go_wp2_with fail
       refine (UD.out _ SL_10.out).mono ?_; rintro e w11 ⟨rfl, b11⟩
       have d11 : Below w10.heap.size w10 w11 := below_step gr0 b11
       have B11 := Lib.hid (below_step B10.out d11)
       have SL_11 := Lib.hid (SL_10.out.on d11)
       clear SL_10 b11 d11 B10
       go_wp2_with fail
       refine (GE.out _ SL_11.out).mono ?_; rintro e w12 ⟨rfl, b12⟩
       have d12 : Below w11.heap.size w11 w12 := below_step gr0 b12
       have B12 := Lib.hid (below_step B11.out d12)
       have SL_12 := Lib.hid (SL_11.out.on d12)
       clear SL_11 b12 d12 B11
       go_wp2_with fail
       refine (XA.out _ SL_12.out (var_keep B12.out TT.out)).mono ?_; rintro e w13 ⟨rfl, b13⟩
       have d13 : Below w12.heap.size w12 w13 := below_step gr0 b13
       have B13 := Lib.hid (below_step B12.out d13)
       have SL_13 := Lib.hid (SL_12.out.on d13)
       clear SL_12 b13 d13 B12
       go_wp2_with fail
       refine (RE.out _ (MX.out _ B13.out)).mono ?_; rintro e w14 ⟨_, sP, rfl, b14⟩
       have SP_14 := Lib.hid sP; obtain ⟨AP, cP, rfl, -⟩ := sP
       have d14 : Below w13.heap.size w13 w14 := below_step gr0 b14
       have B14 := Lib.hid (below_step B13.out d14)
       have SL_14 := Lib.hid (SL_13.out.on d14)
       clear SL_13 b14 d14 B13
       go_wp2_with fail
       refine (SM.out _ _ _ (SP_14.out.on gr0) (SL_14.out.on gr0)).mono ?_; rintro e w15 ⟨rfl, b15⟩
       have d15 : Below w14.heap.size w14 w15 := below_step gr0 b15
       have B15 := Lib.hid (below_step B14.out d15)
       have SL_15 := Lib.hid (SL_14.out.on d15)
       have SP_15 := Lib.hid (SP_14.out.on d15)
       have aF := B14.out.size
       have F15 : Bk2 w15 (w14.heap.size) (.int .i64 0) (.int .i64 0) := by refine Bk2.of b15 (by simp <;> omega) (by intro j; simp [go_sem]) ?_ ?_ <;> simp [go_sem]
       clear SL_14 SP_14 b15 d15 B14
       have tx := F15; obtain ⟨cF_b, cF_f, cF_0, cF_1⟩ := tx
       go_wp2_with fail
       clear cF_b cF_f cF_0 cF_1
       go_ret
       exact ⟨rfl, (grB B15)⟩
      ·
       rw [hg] at UD GE
       rw [decide_eq_true (by omega)] at UD
       clear hg
       go_wp2_with fail
       refine (UD.out _ SL_10.out).mono ?_; rintro e w11 ⟨rfl, b11⟩
       have d11 : Below w10.heap.size w10 w11 := below_step gr0 b11
       have B11 := Lib.hid (below_step B10.out d11)
       have SL_11 := Lib.hid (SL_10.out.on d11)
       clear SL_10 b11 d11 B10
       go_wp2_with fail
       refine (GE.out _ SL_11.out).mono ?_; rintro e w12 ⟨rfl, b12⟩
       have d12 : Below w11.heap.size w11 w12 := below_step gr0 b12
       have B12 := Lib.hid (below_step B11.out d12)
       have SL_12 := Lib.hid (SL_11.out.on d12)
       clear SL_11 b12 d12 B11
       go_wp2_with fail
       refine (XA.out _ SL_12.out (var_keep B12.out TT.out)).mono ?_; rintro e w13 ⟨rfl, b13⟩
       have d13 : Below w12.heap.size w12 w13 := below_step gr0 b13
       have B13 := Lib.hid (below_step B12.out d13)
       have SL_13 := Lib.hid (SL_12.out.on d13)
       clear SL_12 b13 d13 B12
       go_wp2_with fail
       refine (RE.out _ (MX.out _ B13.out)).mono ?_; rintro e w14 ⟨_, sP, rfl, b14⟩
       have SP_14 := Lib.hid sP; obtain ⟨AP, cP, rfl, -⟩ := sP
       have d14 : Below w13.heap.size w13 w14 := below_step gr0 b14
       have B14 := Lib.hid (below_step B13.out d14)
       have SL_14 := Lib.hid (SL_13.out.on d14)
       clear SL_13 b14 d14 B13
       go_wp2_with fail
       refine (SM.out _ _ _ (SP_14.out.on gr0) (SL_14.out.on gr0)).mono ?_; rintro e w15 ⟨rfl, b15⟩
       have d15 : Below w14.heap.size w14 w15 := below_step gr0 b15
       have B15 := Lib.hid (below_step B14.out d15)
       have SL_15 := Lib.hid (SL_14.out.on d15)
       have SP_15 := Lib.hid (SP_14.out.on d15)
       have aF := B14.out.size
       have F15 : Bk2 w15 (w14.heap.size) (.int .i64 0) (.int .i64 0) := by refine Bk2.of b15 (by simp <;> omega) (by intro j; simp [go_sem]) ?_ ?_ <;> simp [go_sem]
       clear SL_14 SP_14 b15 d15 B14
       have tx := F15; obtain ⟨cF_b, cF_f, cF_0, cF_1⟩ := tx
       go_wp2_with fail
       clear cF_b cF_f cF_0 cF_1
       go_ret
       exact ⟨rfl, (grB B15)⟩
    ·
     have GC := Lib.hid (fun W S => GN.out W (b + 1) S)
     rw [show Lp.gn l (b + 1) = (0, 1) by unfold Lp.gn; rw [if_pos HR.out, if_neg (by omega)]] at GC
     dsimp only at GC
     clear step
     go_wp2_with fail
     refine (GC.out _ S9.out).mono ?_; rintro e w10 ⟨rfl, b10⟩
     have d10 : Below w9.heap.size w9 w10 := below_step gr0 b10
     have B10 := Lib.hid (below_step B9.out d10)
     have SL_10 := Lib.hid (S9.out.on d10)
     clear S9 b10 d10 B9
     rcases HU.out with ⟨q, hq, rfl⟩ | ⟨d, hq, ⟨d0, d1⟩, hg, u0, u1⟩
     ·
      have UD := Lib.hid (fun W S => UT.out W u S)
      rw [hq] at UD
      dsimp only at UD
      clear hq HU UT GN
      go_wp2_with fail
      refine (UD.out _ SL_10.out).mono ?_; rintro e w11 ⟨rfl, b11⟩
      have d11 : Below w10.heap.size w10 w11 := below_step gr0 b11
      have B11 := Lib.hid (below_step B10.out d11)
      have SL_11 := Lib.hid (SL_10.out.on d11)
      clear SL_10 b11 d11 B10
      go_wp2_with fail
      refine (XA.out _ SL_11.out (var_keep B11.out TT.out)).mono ?_; rintro e w12 ⟨rfl, b12⟩
      have d12 : Below w11.heap.size w11 w12 := below_step gr0 b12
      have B12 := Lib.hid (below_step B11.out d12)
      have SL_12 := Lib.hid (SL_11.out.on d12)
      clear SL_11 b12 d12 B11
      go_wp2_with fail
      refine (RE.out _ (MX.out _ B12.out)).mono ?_; rintro e w13 ⟨_, sP, rfl, b13⟩
      have SP_13 := Lib.hid sP; obtain ⟨AP, cP, rfl, -⟩ := sP
      have d13 : Below w12.heap.size w12 w13 := below_step gr0 b13
      have B13 := Lib.hid (below_step B12.out d13)
      have SL_13 := Lib.hid (SL_12.out.on d13)
      clear SL_12 b13 d13 B12
      go_wp2_with fail
      refine (SM.out _ _ _ (SP_13.out.on gr0) (SL_13.out.on gr0)).mono ?_; rintro e w14 ⟨rfl, b14⟩
      have d14 : Below w13.heap.size w13 w14 := below_step gr0 b14
      have B14 := Lib.hid (below_step B13.out d14)
      have SL_14 := Lib.hid (SL_13.out.on d14)
      have SP_14 := Lib.hid (SP_13.out.on d14)
      have aF := B13.out.size
      have F14 : Bk2 w14 (w13.heap.size) (.int .i64 0) (.int .i64 0) := by refine Bk2.of b14 (by simp <;> omega) (by intro j; simp [go_sem]) ?_ ?_ <;> simp [go_sem]
      clear SL_13 SP_13 b14 d14 B13
      have tx := F14; obtain ⟨cF_b, cF_f, cF_0, cF_1⟩ := tx
      go_wp2_with fail
      clear cF_b cF_f cF_0 cF_1
      go_ret
      exact ⟨rfl, (grB B14)⟩
     ·
      have GE := Lib.hid (fun W S => GN.out W d S)
      rw [Lp.gn_ok HR.out d0 d1] at GE
      have UD := Lib.hid (fun W S => UT.out W u S)
      rw [hq] at UD
      dsimp only at UD GE
      clear hq HU UT GN
      rcases hg with hg | hg
      ·
       rw [hg] at UD GE
       rw [decide_eq_false (by omega)] at UD
       clear hg
       go_wp2_with fail
       refine (UD.out _ SL_10.out).mono ?_; rintro e w11 ⟨rfl, b11⟩
       have d11 : Below w10.heap.size w10 w11 := below_step gr0 b11
       have B11 := Lib.hid (below_step B10.out d11)
       have SL_11 := Lib.hid (SL_10.out.on d11)
       clear SL_10 b11 d11 B10
       go_wp2_with fail
       refine (GE.out _ SL_11.out).mono ?_; rintro e w12 ⟨rfl, b12⟩
       have d12 : Below w11.heap.size w11 w12 := below_step gr0 b12
       have B12 := Lib.hid (below_step B11.out d12)
       have SL_12 := Lib.hid (SL_11.out.on d12)
       clear SL_11 b12 d12 B11
       go_wp2_with fail
       refine (XA.out _ SL_12.out (var_keep B12.out TT.out)).mono ?_; rintro e w13 ⟨rfl, b13⟩
       have d13 : Below w12.heap.size w12 w13 := below_step gr0 b13
       have B13 := Lib.hid (below_step B12.out d13)
       have SL_13 := Lib.hid (SL_12.out.on d13)
       clear SL_12 b13 d13 B12
       go_wp2_with fail
       refine (RE.out _ (MX.out _ B13.out)).mono ?_; rintro e w14 ⟨_, sP, rfl, b14⟩
       have SP_14 := Lib.hid sP; obtain ⟨AP, cP, rfl, -⟩ := sP
       have d14 : Below w13.heap.size w13 w14 := below_step gr0 b14
       have B14 := Lib.hid (below_step B13.out d14)
       have SL_14 := Lib.hid (SL_13.out.on d14)
       clear SL_13 b14 d14 B13
       go_wp2_with fail
       refine (SM.out _ _ _ (SP_14.out.on gr0) (SL_14.out.on gr0)).mono ?_; rintro e w15 ⟨rfl, b15⟩
       have d15 : Below w14.heap.size w14 w15 := below_step gr0 b15
       have B15 := Lib.hid (below_step B14.out d15)
       have SL_15 := Lib.hid (SL_14.out.on d15)
       have SP_15 := Lib.hid (SP_14.out.on d15)
       have aF := B14.out.size
       have F15 : Bk2 w15 (w14.heap.size) (.int .i64 0) (.int .i64 0) := by refine Bk2.of b15 (by simp <;> omega) (by intro j; simp [go_sem]) ?_ ?_ <;> simp [go_sem]
       clear SL_14 SP_14 b15 d15 B14
       have tx := F15; obtain ⟨cF_b, cF_f, cF_0, cF_1⟩ := tx
       go_wp2_with fail
       clear cF_b cF_f cF_0 cF_1
       go_ret
       exact ⟨rfl, (grB B15)⟩
      ·
       rw [hg] at UD GE
       rw [decide_eq_true (by omega)] at UD
       clear hg
       go_wp2_with fail
       refine (UD.out _ SL_10.out).mono ?_; rintro e w11 ⟨rfl, b11⟩
       have d11 : Below w10.heap.size w10 w11 := below_step gr0 b11
       have B11 := Lib.hid (below_step B10.out d11)
       have SL_11 := Lib.hid (SL_10.out.on d11)
       clear SL_10 b11 d11 B10
       go_wp2_with fail
       refine (GE.out _ SL_11.out).mono ?_; rintro e w12 ⟨rfl, b12⟩
       have d12 : Below w11.heap.size w11 w12 := below_step gr0 b12
       have B12 := Lib.hid (below_step B11.out d12)
       have SL_12 := Lib.hid (SL_11.out.on d12)
       clear SL_11 b12 d12 B11
       go_wp2_with fail
       refine (XA.out _ SL_12.out (var_keep B12.out TT.out)).mono ?_; rintro e w13 ⟨rfl, b13⟩
       have d13 : Below w12.heap.size w12 w13 := below_step gr0 b13
       have B13 := Lib.hid (below_step B12.out d13)
       have SL_13 := Lib.hid (SL_12.out.on d13)
       clear SL_12 b13 d13 B12
       go_wp2_with fail
       refine (RE.out _ (MX.out _ B13.out)).mono ?_; rintro e w14 ⟨_, sP, rfl, b14⟩
       have SP_14 := Lib.hid sP; obtain ⟨AP, cP, rfl, -⟩ := sP
       have d14 : Below w13.heap.size w13 w14 := below_step gr0 b14
       have B14 := Lib.hid (below_step B13.out d14)
       have SL_14 := Lib.hid (SL_13.out.on d14)
       clear SL_13 b14 d14 B13
       go_wp2_with fail
       refine (SM.out _ _ _ (SP_14.out.on gr0) (SL_14.out.on gr0)).mono ?_; rintro e w15 ⟨rfl, b15⟩
       have d15 : Below w14.heap.size w14 w15 := below_step gr0 b15
       have B15 := Lib.hid (below_step B14.out d15)
       have SL_15 := Lib.hid (SL_14.out.on d15)
       have SP_15 := Lib.hid (SP_14.out.on d15)
       have aF := B14.out.size
       have F15 : Bk2 w15 (w14.heap.size) (.int .i64 0) (.int .i64 0) := by refine Bk2.of b15 (by simp <;> omega) (by intro j; simp [go_sem]) ?_ ?_ <;> simp [go_sem]
       clear SL_14 SP_14 b15 d15 B14
       have tx := F15; obtain ⟨cF_b, cF_f, cF_0, cF_1⟩ := tx
       go_wp2_with fail
       clear cF_b cF_f cF_0 cF_1
       go_ret
       exact ⟨rfl, (grB B15)⟩
   ·
    rw [hL] at GX
    subst GX
    have hb : b = t + 1 := by rw [HB.out, hL]; rfl
    subst hb
    have h9 := HLH.out hL
    have step := HGS.out.1 hL
    have GC := Lib.hid (fun W S => GN.out W (t + 1) S)
    rw [Lp.gn_ok HR.out (by omega) h9, step] at GC
    dsimp only at GC
    have q1 : ¬ a < a := by omega
    have q2 : ¬ a + 2 < a := by omega
    clear step HB HGS HLH hL
    go_wp2_with fail
    refine (GC.out _ S9.out).mono ?_; rintro e w10 ⟨rfl, b10⟩
    have d10 : Below w9.heap.size w9 w10 := below_step gr0 b10
    have B10 := Lib.hid (below_step B9.out d10)
    have SL_10 := Lib.hid (S9.out.on d10)
    clear S9 b10 d10 B9
    rcases HU.out with ⟨q, hq, rfl⟩ | ⟨d, hq, ⟨d0, d1⟩, hg, u0, u1⟩
    ·
     have UD := Lib.hid (fun W S => UT.out W u S)
     rw [hq] at UD
     dsimp only at UD
     clear hq HU UT GN
     go_wp2_with fail
     refine (UD.out _ SL_10.out).mono ?_; rintro e w11 ⟨rfl, b11⟩
     have d11 : Below w10.heap.size w10 w11 := below_step gr0 b11
     have B11 := Lib.hid (below_step B10.out d11)
     have SL_11 := Lib.hid (SL_10.out.on d11)
     clear SL_10 b11 d11 B10
     go_wp2_with fail
     refine (XA.out _ SL_11.out (var_keep B11.out TT.out)).mono ?_; rintro e w12 ⟨rfl, b12⟩
     have d12 : Below w11.heap.size w11 w12 := below_step gr0 b12
     have B12 := Lib.hid (below_step B11.out d12)
     have SL_12 := Lib.hid (SL_11.out.on d12)
     clear SL_11 b12 d12 B11
     go_wp2_with fail
     refine (RE.out _ (MX.out _ B12.out)).mono ?_; rintro e w13 ⟨_, sP, rfl, b13⟩
     have SP_13 := Lib.hid sP; obtain ⟨AP, cP, rfl, -⟩ := sP
     have d13 : Below w12.heap.size w12 w13 := below_step gr0 b13
     have B13 := Lib.hid (below_step B12.out d13)
     have SL_13 := Lib.hid (SL_12.out.on d13)
     clear SL_12 b13 d13 B12
     go_wp2_with fail
     refine (SM.out _ _ _ (SP_13.out.on gr0) (SL_13.out.on gr0)).mono ?_; rintro e w14 ⟨rfl, b14⟩
     have d14 : Below w13.heap.size w13 w14 := below_step gr0 b14
     have B14 := Lib.hid (below_step B13.out d14)
     have SL_14 := Lib.hid (SL_13.out.on d14)
     have SP_14 := Lib.hid (SP_13.out.on d14)
     have aF := B13.out.size
     have F14 : Bk2 w14 (w13.heap.size) (.int .i64 0) (.int .i64 0) := by refine Bk2.of b14 (by simp <;> omega) (by intro j; simp [go_sem]) ?_ ?_ <;> simp [go_sem]
     clear SL_13 SP_13 b14 d14 B13
     have tx := F14; obtain ⟨cF_b, cF_f, cF_0, cF_1⟩ := tx
     go_wp2_with fail
     clear cF_b cF_f cF_0 cF_1
     go_ret
     exact ⟨rfl, (grB B14)⟩
    ·
     have GE := Lib.hid (fun W S => GN.out W d S)
     rw [Lp.gn_ok HR.out d0 d1] at GE
     have UD := Lib.hid (fun W S => UT.out W u S)
     rw [hq] at UD
     dsimp only at UD GE
     clear hq HU UT GN
     rcases hg with hg | hg
     ·
      rw [hg] at UD GE
      rw [decide_eq_false (by omega)] at UD
      clear hg
      go_wp2_with fail
      refine (UD.out _ SL_10.out).mono ?_; rintro e w11 ⟨rfl, b11⟩
      have d11 : Below w10.heap.size w10 w11 := below_step gr0 b11
      have B11 := Lib.hid (below_step B10.out d11)
      have SL_11 := Lib.hid (SL_10.out.on d11)
      clear SL_10 b11 d11 B10
      go_wp2_with fail
      refine (GE.out _ SL_11.out).mono ?_; rintro e w12 ⟨rfl, b12⟩
      have d12 : Below w11.heap.size w11 w12 := below_step gr0 b12
      have B12 := Lib.hid (below_step B11.out d12)
      have SL_12 := Lib.hid (SL_11.out.on d12)
      clear SL_11 b12 d12 B11
      go_wp2_with fail
      refine (XA.out _ SL_12.out (var_keep B12.out TT.out)).mono ?_; rintro e w13 ⟨rfl, b13⟩
      have d13 : Below w12.heap.size w12 w13 := below_step gr0 b13
      have B13 := Lib.hid (below_step B12.out d13)
      have SL_13 := Lib.hid (SL_12.out.on d13)
      clear SL_12 b13 d13 B12
      go_wp2_with fail
      refine (RE.out _ (MX.out _ B13.out)).mono ?_; rintro e w14 ⟨_, sP, rfl, b14⟩
      have SP_14 := Lib.hid sP; obtain ⟨AP, cP, rfl, -⟩ := sP
      have d14 : Below w13.heap.size w13 w14 := below_step gr0 b14
      have B14 := Lib.hid (below_step B13.out d14)
      have SL_14 := Lib.hid (SL_13.out.on d14)
      clear SL_13 b14 d14 B13
      go_wp2_with fail
      refine (SM.out _ _ _ (SP_14.out.on gr0) (SL_14.out.on gr0)).mono ?_; rintro e w15 ⟨rfl, b15⟩
      have d15 : Below w14.heap.size w14 w15 := below_step gr0 b15
      have B15 := Lib.hid (below_step B14.out d15)
      have SL_15 := Lib.hid (SL_14.out.on d15)
      have SP_15 := Lib.hid (SP_14.out.on d15)
      have aF := B14.out.size
      have F15 : Bk2 w15 (w14.heap.size) (.int .i64 0) (.int .i64 0) := by refine Bk2.of b15 (by simp <;> omega) (by intro j; simp [go_sem]) ?_ ?_ <;> simp [go_sem]
      clear SL_14 SP_14 b15 d15 B14
      have tx := F15; obtain ⟨cF_b, cF_f, cF_0, cF_1⟩ := tx
      go_wp2_with fail
      clear cF_b cF_f cF_0 cF_1
      go_ret
      exact ⟨rfl, (grB B15)⟩
     ·
      rw [hg] at UD GE
      rw [decide_eq_true (by omega)] at UD
      clear hg
      go_wp2_with fail
      refine (UD.out _ SL_10.out).mono ?_; rintro e w11 ⟨rfl, b11⟩
      have d11 : Below w10.heap.size w10 w11 := below_step gr0 b11
      have B11 := Lib.hid (below_step B10.out d11)
      have SL_11 := Lib.hid (SL_10.out.on d11)
      clear SL_10 b11 d11 B10
      go_wp2_with fail
      refine (GE.out _ SL_11.out).mono ?_; rintro e w12 ⟨rfl, b12⟩
      have d12 : Below w11.heap.size w11 w12 := below_step gr0 b12
      have B12 := Lib.hid (below_step B11.out d12)
      have SL_12 := Lib.hid (SL_11.out.on d12)
      clear SL_11 b12 d12 B11
      go_wp2_with fail
      refine (XA.out _ SL_12.out (var_keep B12.out TT.out)).mono ?_; rintro e w13 ⟨rfl, b13⟩
      have d13 : Below w12.heap.size w12 w13 := below_step gr0 b13
      have B13 := Lib.hid (below_step B12.out d13)
      have SL_13 := Lib.hid (SL_12.out.on d13)
      clear SL_12 b13 d13 B12
      go_wp2_with fail
      refine (RE.out _ (MX.out _ B13.out)).mono ?_; rintro e w14 ⟨_, sP, rfl, b14⟩
      have SP_14 := Lib.hid sP; obtain ⟨AP, cP, rfl, -⟩ := sP
      have d14 : Below w13.heap.size w13 w14 := below_step gr0 b14
      have B14 := Lib.hid (below_step B13.out d14)
      have SL_14 := Lib.hid (SL_13.out.on d14)
      clear SL_13 b14 d14 B13
      go_wp2_with fail
      refine (SM.out _ _ _ (SP_14.out.on gr0) (SL_14.out.on gr0)).mono ?_; rintro e w15 ⟨rfl, b15⟩
      have d15 : Below w14.heap.size w14 w15 := below_step gr0 b15
      have B15 := Lib.hid (below_step B14.out d15)
      have SL_15 := Lib.hid (SL_14.out.on d15)
      have SP_15 := Lib.hid (SP_14.out.on d15)
      have aF := B14.out.size
      have F15 : Bk2 w15 (w14.heap.size) (.int .i64 0) (.int .i64 0) := by refine Bk2.of b15 (by simp <;> omega) (by intro j; simp [go_sem]) ?_ ?_ <;> simp [go_sem]
      clear SL_14 SP_14 b15 d15 B14
      have tx := F15; obtain ⟨cF_b, cF_f, cF_0, cF_1⟩ := tx
      go_wp2_with fail
      clear cF_b cF_f cF_0 cF_1
      go_ret
      exact ⟨rfl, (grB B15)⟩
end Go.Proofs.YtifgiclnofdnkaaGreatDoor
