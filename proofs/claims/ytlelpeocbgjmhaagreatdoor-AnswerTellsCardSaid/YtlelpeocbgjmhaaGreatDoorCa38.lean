/- Joined: AnT. -/
import Derived.Test.YtlelpeocbgjmhaaGreatDoorCa30
import Derived.Test.YtlelpeocbgjmhaaGreatDoorCa35
import Derived.Test.YtlelpeocbgjmhaaGreatDoorCa36
import Derived.Test.YtlelpeocbgjmhaaGreatDoorCa37
/- Answers: as the reference says, the walk. -/
set_option linter.unusedVariables false
set_option linter.unusedSimpArgs false
namespace Go.Proofs.YtlelpeocbgjmhaaGreatDoor
open Go.RowKit Go.Sort
theorem An.tot_le (m : Nat) : ∀ l : List ByteArray, (∀ y ∈ l, y.size ≤ m) → Fd.tot l ≤ m * l.length
  | [], _ => Nat.le_refl _
  | x :: l, h => by
    have h1 := h x (List.mem_cons_self ..)
    have h2 := An.tot_le m l (fun y hy => h y (List.mem_cons_of_mem _ hy))
    rw [Fd.tot_cons, List.length_cons, Nat.mul_succ]; omega
set_option maxHeartbeats 16000000 in
set_option maxRecDepth 100000 in
theorem answer_tells (k a b c d : Int) (x : ByteArray) (a' b' c' d' : Int) (x' : ByteArray) (t line err : Int) (v : Value) (l : List ByteArray) (s : ByteArray) (w : World) (hk : An.bd k) (ha : An.bd a) (hb : An.bd b) (hc : An.bd c) (hd : An.bd d) (hx : x.size ≤ 140737488355328) (ha' : An.bd a') (hb' : An.bd b') (hc' : An.bd c') (hd' : An.bd d') (hx' : x'.size ≤ 140737488355328) (ht : An.bd t) (hli : An.bd line) (her : An.bd err) (S : StS w v l) (hz : ∀ y ∈ l, y.size ≤ maxLen) (hs : s.size ≤ 140737488355328)
    (T : Lib.TabIs Tryz.prog w "internal/strconv.uint64pow10" .u64 Lib.pow10Tab) (tp : TypeId) (pp : Value) (V : w.var? Tryz.prog "strconv.ErrRange" = some #[.iface tp pp]) :
    Calls Tryz.prog 3 #[.agg #[.int .i64 k, .int .i64 a, .int .i64 b, .int .i64 c, .int .i64 d, .string x, .int .i64 a', .int .i64 b', .int .i64 c', .int .i64 d', .string x'], .int .i64 t, .agg #[.int .i64 line, .int .i64 err], v, .string s] w fun e w' => e = .returned (.bool true) ∧ Below w.heap.size w w' := by
  have TT := Lib.hid T; have VV := Lib.hid V
  have LV := Lib.hid (fun W (B : Below w.heap.size w W) => lives45 W (var_keep B TT.out) tp pp (var_keep B VV.out))
  clear T V
  have T0 := S
  obtain ⟨A, cc, rfl, -⟩ := T0
  have HS := Lib.hid S
  have HZ := Lib.hid hz
  clear S hz
  obtain ⟨N, hN⟩ : ∃ N, N = l.length := ⟨_, rfl⟩
  have HN := Lib.hid hN
  have HS : Hid (StS w (.slice A N cc) l) := by rw [hN]; exact HS
  rw [← hN]
  clear hN
  by_cases hbig : 1000 < x.size + x'.size + s.size 
  case pos =>
    have g : (1000 : Int) < (x.size : Int) + (x'.size : Int) + (s.size : Int) := by omega
    clear ha hb hc hd ha' hb' hc' hd' hbig hk ht hli her
    go_enter Tryz.func3, Tryz.ntmps3
    go_wp2_with fail
    refine (LV.out _ (by repeat (first | exact Below.refl _ _ | refine _root_.Go.below_drewN ?_ _ | refine Below.drew ?_ | refine Below.setCell ?_ (by first | (simp; done) | (simp; omega) | omega) _ | refine Below.alloc ?_ (by first | (simp; done) | (simp; omega) | omega) _))).mono ?_; rintro e w9 ⟨rfl, b9⟩
    have B9 : Hid (Below w.heap.size w w9) := Lib.hid (below_step (by repeat (first | exact Below.refl _ _ | refine _root_.Go.below_drewN ?_ _ | refine Below.drew ?_ | refine Below.setCell ?_ (by first | (simp; done) | (simp; omega) | omega) _ | refine Below.alloc ?_ (by first | (simp; done) | (simp; omega) | omega) _)) b9)
    clear b9
    go_wp2_with fail
    go_ret
    exact ⟨rfl, B9.out⟩
  have g : ¬ (1000 : Int) < (x.size : Int) + (x'.size : Int) + (s.size : Int) := by omega
  by_cases h60 : 60 < N
  case pos =>
    have g2 : (60 : Int) < (N : Int) := by omega
    clear ha hb hc hd ha' hb' hc' hd' hbig hk ht hli her h60
    go_enter Tryz.func3, Tryz.ntmps3
    go_wp2_with fail
    refine (LV.out _ (by repeat (first | exact Below.refl _ _ | refine _root_.Go.below_drewN ?_ _ | refine Below.drew ?_ | refine Below.setCell ?_ (by first | (simp; done) | (simp; omega) | omega) _ | refine Below.alloc ?_ (by first | (simp; done) | (simp; omega) | omega) _))).mono ?_; rintro e w9 ⟨rfl, b9⟩
    have B9 : Hid (Below w.heap.size w w9) := Lib.hid (below_step (by repeat (first | exact Below.refl _ _ | refine _root_.Go.below_drewN ?_ _ | refine Below.drew ?_ | refine Below.setCell ?_ (by first | (simp; done) | (simp; omega) | omega) _ | refine Below.alloc ?_ (by first | (simp; done) | (simp; omega) | omega) _)) b9)
    clear b9
    go_wp2_with fail
    go_ret
    exact ⟨rfl, B9.out⟩
  have g2 : ¬ (60 : Int) < (N : Int) := by omega
  have zx : x.size ≤ 1000 := by omega
  have zx' : x'.size ≤ 1000 := by omega
  have zs : s.size ≤ 1000 := by omega
  have hNb : N ≤ 60 := by omega
  have IA := Lib.hid (fun W (B : Below w.heap.size w W) => ainfo_any a b c d x W ha hb hc hd (by omega) (var_keep B TT.out))
  have IR := Lib.hid (fun W => rainfo_any a b c d x W ha hb hc hd (by omega))
  have LO := Lib.hid (fun W (B : Below w.heap.size w W) => alocal_any k a b c d x a' b' c' d' x' W ha hb hc hd (by omega) ha' hb' hc' hd' (by omega) (var_keep B TT.out))
  have LR := Lib.hid (fun W => ralocal_any k a b c d x a' b' c' d' x' W hk ha hb hc hd (by omega) ha' hb' hc' hd' (by omega))
  have RD := Lib.hid (fun W (B : Below w.heap.size w W) => aread_any s W (by omega) tp pp (var_keep B VV.out))
  have RR := Lib.hid (fun W => raread_any s W zs)
  have NM := Lib.hid (fun W (S : StS W (.slice A N cc) l) (hl : l.length ≤ 1000) (hz : Fd.tot l ≤ 50000000) => anames_any _ l W S hl hz)
  have NR := Lib.hid (fun W (S : StS W (.slice A N cc) l) (hl : l.length ≤ 1000) (hz : Fd.tot l ≤ 50000000) => ranames_any _ l W S hl hz)
  have SE := Lib.hid (fun W (B : Below w.heap.size w W) => asecond_txt t W ht (var_keep B TT.out))
  have SR := Lib.hid (fun W => rasecond_txt t W ht)
  have FA := Lib.hid (fun W (B : Below w.heap.size w W) => afault_any line err W hli her (var_keep B TT.out))
  have FR := Lib.hid (fun W => rafault_any line err W hli her)
  generalize (⟨(An.loc k (a, b, c, d, x) (a', b', c', d', x')).1.toArray⟩ : ByteArray) = RL at LO LR
  generalize (An.loc k (a, b, c, d, x) (a', b', c', d', x')).2 = yl at LO LR
  generalize (⟨(An.inf (a, b, c, d, x)).1.toArray⟩ : ByteArray) = R1 at IA IR
  generalize (An.inf (a, b, c, d, x)).2 = y1 at IA IR
  generalize An.rdi s.data.toList = RS at RD RR
  obtain ⟨⟨e1, e2, e3, e4, e5⟩, y3⟩ := RS
  dsimp only at RD RR
  generalize (⟨(An.nms (Fd.bl l)).1.toArray⟩ : ByteArray) = RN at NM NR
  generalize (An.nms (Fd.bl l)).2 = yn at NM NR
  generalize (⟨(An.sec t).toArray⟩ : ByteArray) = RT at SE SR
  generalize (⟨(An.flt line err).toArray⟩ : ByteArray) = RF at FA FR
  clear ha hb hc hd ha' hb' hc' hd' hbig hk ht hli her h60
  go_enter Tryz.func3, Tryz.ntmps3
  go_upto_region 1 with (fail)
  refine wp_named ?_; intro w1 hw1
  have d1 : Below w.heap.size w w1 := by rw [hw1]; exact (by repeat (first | exact Below.refl _ _ | refine _root_.Go.below_drewN ?_ _ | refine Below.drew ?_ | refine Below.setCell ?_ (by first | (simp; done) | (simp; omega) | omega) _ | refine Below.alloc ?_ (by first | (simp; done) | (simp; omega) | omega) _))
  have X1 : Bk11 w1 w.heap.size (.int .i64 k) (.int .i64 a) (.int .i64 b) (.int .i64 c) (.int .i64 d) (.string x) (.int .i64 a') (.int .i64 b') (.int .i64 c') (.int .i64 d') (.string x') := by rw [hw1]; exact ⟨by simp <;> omega, by intro j; simp [go_sem], by simp [go_sem], by simp [go_sem], by simp [go_sem], by simp [go_sem], by simp [go_sem], by simp [go_sem], by simp [go_sem], by simp [go_sem], by simp [go_sem], by simp [go_sem], by simp [go_sem]⟩
  have F1 : Bk2 w1 (w.heap.size + 1) (.int .i64 line) (.int .i64 err) := by rw [hw1]; exact ⟨by simp <;> omega, by intro j; simp [go_sem], by simp [go_sem], by simp [go_sem]⟩
  have B1 := Lib.hid d1
  have HS1 : Hid (StS w1 (.slice A N cc) l) := Lib.hid (HS.out.on d1)
  clear d1 hw1 HS
  have X_b := X1.hb; have X_f := X1.fz; have X_0 := X1.k0; have X_1 := X1.k1; have X_2 := X1.k2; have X_3 := X1.k3; have X_4 := X1.k4; have X_5 := X1.k5; have X_6 := X1.k6; have X_7 := X1.k7; have X_8 := X1.k8; have X_9 := X1.k9; have X_10 := X1.k10
  have F_b := F1.hb; have F_f := F1.fz; have F_0 := F1.k0; have F_1 := F1.k1
  go_wp2_with fail
  go_loopw [52] (fun i wr => ∃ k : Nat, k ≤ N ∧ i = .int .i64 k ∧ Hid (∀ y ∈ l.take k, y.size ≤ 200) ∧ Hid (wr = w1)) (fun i _ => N - (intOf i).toNat)
  case atStart => exact ⟨0, Nat.zero_le _, rfl, Lib.hid (fun y hy => by simp at hy), Lib.hid rfl⟩
  case round =>
    obtain ⟨k9, hk, rfl, hsm, hw⟩ := hrel
    obtain rfl : w1 = wr := hw.out.symm
    by_cases hlt : k9 < N
    · have hkl : k9 < l.length := by have := HN.out; omega
      obtain ⟨q, rfl, g9⟩ := HS1.out.get k9 hkl
      have hxz : l[k9].size ≤ 9223372036854775807 := by have := HZ.out l[k9] (List.getElem_mem hkl); unfold maxLen at this; omega
      have hsm2 : l[k9].size ≤ 200 → Hid (∀ y ∈ l.take (k9 + 1), y.size ≤ 200) := fun h => Lib.hid (fun y hy => by
        rw [List.take_succ_eq_append_getElem hkl] at hy
        rcases List.mem_append.1 hy with hy | hy
        · exact hsm.out y hy
        · rw [List.mem_singleton.1 hy]; exact h)
      generalize l[k9] = xx at g9 hxz hsm2
      clear g g2
      clear X_b X_f X_0 X_1 X_2 X_3 X_4 X_5 X_6 X_7 X_8 X_9 X_10 F_b F_f F_0 F_1
      by_cases hx : 200 < (xx.size : Int)
      · clear hsm2
        go_wp2_with fail
        refine (LV.out _ B1.out).mono ?_; rintro e w9 ⟨rfl, b9⟩
        have B9 := Lib.hid (below_step B1.out b9)
        clear b9
        go_wp2_with fail
        go_ret
        exact ⟨rfl, B9.out⟩
      · have HX := hsm2 (by omega)
        clear hsm2
        go_wp2_with fail
        go_roundw
        case rel => exact ⟨k9 + 1, by omega, by go_num, HX, Lib.hid (by first | rfl | trivial)⟩
        case measure => simp [intOf]; omega
    · have HX : Hid (∀ y ∈ l, y.size ≤ 200) := by
        have := hsm.out
        rw [List.take_of_length_le (by have := HN.out; omega)] at this
        exact Lib.hid this
      have htot : Fd.tot l ≤ 200 * 60 := Nat.le_trans (An.tot_le 200 l HX.out) (Nat.mul_le_mul_left _ (by have := HN.out; omega))
      have HT : Hid (Fd.tot l ≤ 50000000) := Lib.hid (by omega)
      have HL : Hid (l.length ≤ 1000) := Lib.hid (by have := HN.out; omega)
      clear htot HX hsm HZ HN g g2 zx zx' zs hx hx' hs hNb
      go_wp2_with fail
      refine (IA.out _ B1.out).mono ?_; rintro e w2 ⟨rfl, b2⟩
      have d2 : Below w1.heap.size w1 w2 := below_step (by repeat (first | exact Below.refl _ _ | refine _root_.Go.below_drewN ?_ _ | refine Below.drew ?_ | refine Below.setCell ?_ (by first | (simp; done) | (simp; omega) | omega) _ | refine Below.alloc ?_ (by first | (simp; done) | (simp; omega) | omega) _)) b2
      have B2 := Lib.hid (below_step B1.out d2)
      have X2 := X1.keep d2; have F2 := F1.keep d2
      have HS2 : Hid (StS w2 (.slice A N cc) l) := Lib.hid (HS1.out.on d2)
      clear X_b X_f X_0 X_1 X_2 X_3 X_4 X_5 X_6 X_7 X_8 X_9 X_10 F_b F_f F_0 F_1
      clear b2 d2 X1 F1 HS1 B1
      have X_b := X2.hb; have X_f := X2.fz; have X_0 := X2.k0; have X_1 := X2.k1; have X_2 := X2.k2; have X_3 := X2.k3; have X_4 := X2.k4; have X_5 := X2.k5; have X_6 := X2.k6; have X_7 := X2.k7; have X_8 := X2.k8; have X_9 := X2.k9; have X_10 := X2.k10
      have F_b := F2.hb; have F_f := F2.fz; have F_0 := F2.k0; have F_1 := F2.k1
      go_wp2_with fail
      refine (IR.out _).mono ?_; rintro e w3 ⟨rfl, b3⟩
      have d3 : Below w2.heap.size w2 w3 := below_step (by repeat (first | exact Below.refl _ _ | refine _root_.Go.below_drewN ?_ _ | refine Below.drew ?_ | refine Below.setCell ?_ (by first | (simp; done) | (simp; omega) | omega) _ | refine Below.alloc ?_ (by first | (simp; done) | (simp; omega) | omega) _)) b3
      have B3 := Lib.hid (below_step B2.out d3)
      have X3 := X2.keep d3; have F3 := F2.keep d3
      have HS3 : Hid (StS w3 (.slice A N cc) l) := Lib.hid (HS2.out.on d3)
      clear X_b X_f X_0 X_1 X_2 X_3 X_4 X_5 X_6 X_7 X_8 X_9 X_10 F_b F_f F_0 F_1
      clear b3 d3 X2 F2 HS2 B2
      have X_b := X3.hb; have X_f := X3.fz; have X_0 := X3.k0; have X_1 := X3.k1; have X_2 := X3.k2; have X_3 := X3.k3; have X_4 := X3.k4; have X_5 := X3.k5; have X_6 := X3.k6; have X_7 := X3.k7; have X_8 := X3.k8; have X_9 := X3.k9; have X_10 := X3.k10
      have F_b := F3.hb; have F_f := F3.fz; have F_0 := F3.k0; have F_1 := F3.k1
      go_wp2_with fail
      refine (LO.out _ B3.out).mono ?_; rintro e w4 ⟨rfl, b4⟩
      have d4 : Below w3.heap.size w3 w4 := below_step (by repeat (first | exact Below.refl _ _ | refine _root_.Go.below_drewN ?_ _ | refine Below.drew ?_ | refine Below.setCell ?_ (by first | (simp; done) | (simp; omega) | omega) _ | refine Below.alloc ?_ (by first | (simp; done) | (simp; omega) | omega) _)) b4
      have B4 := Lib.hid (below_step B3.out d4)
      have X4 := X3.keep d4; have F4 := F3.keep d4
      have HS4 : Hid (StS w4 (.slice A N cc) l) := Lib.hid (HS3.out.on d4)
      clear X_b X_f X_0 X_1 X_2 X_3 X_4 X_5 X_6 X_7 X_8 X_9 X_10 F_b F_f F_0 F_1
      clear b4 d4 X3 F3 HS3 B3
      have X_b := X4.hb; have X_f := X4.fz; have X_0 := X4.k0; have X_1 := X4.k1; have X_2 := X4.k2; have X_3 := X4.k3; have X_4 := X4.k4; have X_5 := X4.k5; have X_6 := X4.k6; have X_7 := X4.k7; have X_8 := X4.k8; have X_9 := X4.k9; have X_10 := X4.k10
      have F_b := F4.hb; have F_f := F4.fz; have F_0 := F4.k0; have F_1 := F4.k1
      go_wp2_with fail
      refine (LR.out _).mono ?_; rintro e w5 ⟨rfl, b5⟩
      have d5 : Below w4.heap.size w4 w5 := below_step (by repeat (first | exact Below.refl _ _ | refine _root_.Go.below_drewN ?_ _ | refine Below.drew ?_ | refine Below.setCell ?_ (by first | (simp; done) | (simp; omega) | omega) _ | refine Below.alloc ?_ (by first | (simp; done) | (simp; omega) | omega) _)) b5
      have B5 := Lib.hid (below_step B4.out d5)
      have X5 := X4.keep d5; have F5 := F4.keep d5
      have HS5 : Hid (StS w5 (.slice A N cc) l) := Lib.hid (HS4.out.on d5)
      clear X_b X_f X_0 X_1 X_2 X_3 X_4 X_5 X_6 X_7 X_8 X_9 X_10 F_b F_f F_0 F_1
      clear b5 d5 X4 F4 HS4 B4
      have X_b := X5.hb; have X_f := X5.fz; have X_0 := X5.k0; have X_1 := X5.k1; have X_2 := X5.k2; have X_3 := X5.k3; have X_4 := X5.k4; have X_5 := X5.k5; have X_6 := X5.k6; have X_7 := X5.k7; have X_8 := X5.k8; have X_9 := X5.k9; have X_10 := X5.k10
      have F_b := F5.hb; have F_f := F5.fz; have F_0 := F5.k0; have F_1 := F5.k1
      go_wp2_with fail
      refine (RD.out _ B5.out).mono ?_; rintro e w6 ⟨rfl, b6⟩
      have d6 : Below w5.heap.size w5 w6 := below_step (by repeat (first | exact Below.refl _ _ | refine _root_.Go.below_drewN ?_ _ | refine Below.drew ?_ | refine Below.setCell ?_ (by first | (simp; done) | (simp; omega) | omega) _ | refine Below.alloc ?_ (by first | (simp; done) | (simp; omega) | omega) _)) b6
      have B6 := Lib.hid (below_step B5.out d6)
      have X6 := X5.keep d6; have F6 := F5.keep d6
      have HS6 : Hid (StS w6 (.slice A N cc) l) := Lib.hid (HS5.out.on d6)
      clear X_b X_f X_0 X_1 X_2 X_3 X_4 X_5 X_6 X_7 X_8 X_9 X_10 F_b F_f F_0 F_1
      clear b6 d6 X5 F5 HS5 B5
      have X_b := X6.hb; have X_f := X6.fz; have X_0 := X6.k0; have X_1 := X6.k1; have X_2 := X6.k2; have X_3 := X6.k3; have X_4 := X6.k4; have X_5 := X6.k5; have X_6 := X6.k6; have X_7 := X6.k7; have X_8 := X6.k8; have X_9 := X6.k9; have X_10 := X6.k10
      have F_b := F6.hb; have F_f := F6.fz; have F_0 := F6.k0; have F_1 := F6.k1
      go_wp2_with fail
      refine (RR.out _).mono ?_; rintro e w7 ⟨rfl, b7⟩
      have d7 : Below w6.heap.size w6 w7 := below_step (by repeat (first | exact Below.refl _ _ | refine _root_.Go.below_drewN ?_ _ | refine Below.drew ?_ | refine Below.setCell ?_ (by first | (simp; done) | (simp; omega) | omega) _ | refine Below.alloc ?_ (by first | (simp; done) | (simp; omega) | omega) _)) b7
      have E7 : Bk5 w7 w6.heap.size (.int .i64 e1) (.int .i64 e2) (.int .i64 e3) (.int .i64 e4) (.string e5) := Bk5.of b7 (by simp <;> omega) (by intro j; simp [go_sem]) (by simp [go_sem]) (by simp [go_sem]) (by simp [go_sem]) (by simp [go_sem]) (by simp [go_sem])
      obtain ⟨pE, hpE⟩ : ∃ p, p = w6.heap.size := ⟨_, rfl⟩
      have B7 := Lib.hid (below_step B6.out d7)
      have X7 := X6.keep d7; have F7 := F6.keep d7
      have HS7 : Hid (StS w7 (.slice A N cc) l) := Lib.hid (HS6.out.on d7)
      clear X_b X_f X_0 X_1 X_2 X_3 X_4 X_5 X_6 X_7 X_8 X_9 X_10 F_b F_f F_0 F_1
      clear b7 d7 X6 F6 HS6 B6
      have X_b := X7.hb; have X_f := X7.fz; have X_0 := X7.k0; have X_1 := X7.k1; have X_2 := X7.k2; have X_3 := X7.k3; have X_4 := X7.k4; have X_5 := X7.k5; have X_6 := X7.k6; have X_7 := X7.k7; have X_8 := X7.k8; have X_9 := X7.k9; have X_10 := X7.k10
      have F_b := F7.hb; have F_f := F7.fz; have F_0 := F7.k0; have F_1 := F7.k1
      go_wp2_with fail
      refine (NM.out _ (HS7.out.on (by repeat (first | exact Below.refl _ _ | refine _root_.Go.below_drewN ?_ _ | refine Below.drew ?_ | refine Below.setCell ?_ (by first | (simp; done) | (simp; omega) | omega) _ | refine Below.alloc ?_ (by first | (simp; done) | (simp; omega) | omega) _))) HL.out HT.out).mono ?_; rintro e w8 ⟨rfl, b8⟩
      have d8 : Below w7.heap.size w7 w8 := below_step (by repeat (first | exact Below.refl _ _ | refine _root_.Go.below_drewN ?_ _ | refine Below.drew ?_ | refine Below.setCell ?_ (by first | (simp; done) | (simp; omega) | omega) _ | refine Below.alloc ?_ (by first | (simp; done) | (simp; omega) | omega) _)) b8
      have G8 : Bk5 w8 w7.heap.size (.int .i64 e1) (.int .i64 e2) (.int .i64 e3) (.int .i64 e4) (.string e5) := Bk5.of b8 (by simp <;> omega) (by intro j; simp [go_sem]) (by simp [go_sem]) (by simp [go_sem]) (by simp [go_sem]) (by simp [go_sem]) (by simp [go_sem])
      obtain ⟨pG, hpG⟩ : ∃ p, p = w7.heap.size := ⟨_, rfl⟩
      have B8 := Lib.hid (below_step B7.out d8)
      have X8 := X7.keep d8; have F8 := F7.keep d8
      have HS8 : Hid (StS w8 (.slice A N cc) l) := Lib.hid (HS7.out.on d8)
      have E8 := E7.keep d8
      clear X_b X_f X_0 X_1 X_2 X_3 X_4 X_5 X_6 X_7 X_8 X_9 X_10 F_b F_f F_0 F_1
      clear b8 d8 X7 F7 HS7 B7 E7
      have X_b := X8.hb; have X_f := X8.fz; have X_0 := X8.k0; have X_1 := X8.k1; have X_2 := X8.k2; have X_3 := X8.k3; have X_4 := X8.k4; have X_5 := X8.k5; have X_6 := X8.k6; have X_7 := X8.k7; have X_8 := X8.k8; have X_9 := X8.k9; have X_10 := X8.k10
      have F_b := F8.hb; have F_f := F8.fz; have F_0 := F8.k0; have F_1 := F8.k1
      go_wp2_with fail
      refine (NR.out _ HS8.out HL.out HT.out).mono ?_; rintro e w9 ⟨rfl, b9⟩
      have d9 : Below w8.heap.size w8 w9 := below_step (by repeat (first | exact Below.refl _ _ | refine _root_.Go.below_drewN ?_ _ | refine Below.drew ?_ | refine Below.setCell ?_ (by first | (simp; done) | (simp; omega) | omega) _ | refine Below.alloc ?_ (by first | (simp; done) | (simp; omega) | omega) _)) b9
      have B9 := Lib.hid (below_step B8.out d9)
      have X9 := X8.keep d9; have F9 := F8.keep d9
      have HS9 : Hid (StS w9 (.slice A N cc) l) := Lib.hid (HS8.out.on d9)
      have E9 := E8.keep d9
      have G9 := G8.keep d9
      clear X_b X_f X_0 X_1 X_2 X_3 X_4 X_5 X_6 X_7 X_8 X_9 X_10 F_b F_f F_0 F_1
      clear b9 d9 X8 F8 HS8 B8 E8 G8
      have X_b := X9.hb; have X_f := X9.fz; have X_0 := X9.k0; have X_1 := X9.k1; have X_2 := X9.k2; have X_3 := X9.k3; have X_4 := X9.k4; have X_5 := X9.k5; have X_6 := X9.k6; have X_7 := X9.k7; have X_8 := X9.k8; have X_9 := X9.k9; have X_10 := X9.k10
      have F_b := F9.hb; have F_f := F9.fz; have F_0 := F9.k0; have F_1 := F9.k1
      have E_b := E9.hb; have E_f := E9.fz; have E_0 := E9.k0; have E_1 := E9.k1; have E_2 := E9.k2; have E_3 := E9.k3; have E_4 := E9.k4
      have G_b := G9.hb; have G_f := G9.fz; have G_0 := G9.k0; have G_1 := G9.k1; have G_2 := G9.k2; have G_3 := G9.k3; have G_4 := G9.k4
      go_wp2_with fail
      clear X_b X_f X_0 X_1 X_2 X_3 X_4 X_5 X_6 X_7 X_8 X_9 X_10 F_b F_f F_0 F_1
      clear E_b E_f E_0 E_1 E_2 E_3 E_4
      clear G_b G_f G_0 G_1 G_2 G_3 G_4
      have qF_0 := cell_regrown F9.k0
      have qF_1 := cell_regrown F9.k1
      have qE_0 := cell_regrown E9.k0
      have qE_1 := cell_regrown E9.k1
      have qE_2 := cell_regrown E9.k2
      have qE_3 := cell_regrown E9.k3
      have qE_4 := cell_regrown E9.k4
      have qG_0 := cell_regrown G9.k0
      have qG_1 := cell_regrown G9.k1
      have qG_2 := cell_regrown G9.k2
      have qG_3 := cell_regrown G9.k3
      have qG_4 := cell_regrown G9.k4
      refine wp_region_qb (w := w9) (by kernel_rfl) (by kernel_rfl) (by repeat (first | exact Below.refl _ _ | refine _root_.Go.below_drewN ?_ _ | refine Below.drew ?_ | refine Below.setCell ?_ (by first | (simp; done) | (simp; omega) | omega) _ | refine Below.alloc ?_ (by first | (simp; done) | (simp; omega) | omega) _)) ?_
      repeat (any_goals (first | go_big_quiet_step (first | (go_at_call 14; exact Calls.regrown_of (SE.out _ (below_step B9.out (below_regrown _ _ _)))) | (go_at_call 15; exact Calls.regrown_of (SR.out _)) | (go_at_call 16; exact Calls.regrown_of (FA.out _ (below_step B9.out (below_regrown _ _ _)))) | (go_at_call 17; exact Calls.regrown_of (FR.out _)) | (go_at_call 5; exact Calls.regrown_of (LV.out _ (below_step B9.out (below_regrown _ _ _))))) | quiet_step (first | (go_at_call 14; exact Calls.regrown_of (SE.out _ (below_step B9.out (below_regrown _ _ _)))) | (go_at_call 15; exact Calls.regrown_of (SR.out _)) | (go_at_call 16; exact Calls.regrown_of (FA.out _ (below_step B9.out (below_regrown _ _ _)))) | (go_at_call 17; exact Calls.regrown_of (FR.out _)) | (go_at_call 5; exact Calls.regrown_of (LV.out _ (below_step B9.out (below_regrown _ _ _)))))))
      refine wpQuiet_nil ?_
      intro w10 hq
      have b10 : Below w9.heap.size w9 w10 := by obtain ⟨p, hq⟩ := hq; rw [hq]; exact below_regrown _ _ _
      clear hq qF_0 qF_1 qE_0 qE_1 qE_2 qE_3 qE_4 qG_0 qG_1 qG_2 qG_3 qG_4
      have B10 := Lib.hid (below_step B9.out b10)
      clear b10
      go_wp2_with fail
      go_ret
      exact ⟨rfl, B10.out⟩
end Go.Proofs.YtlelpeocbgjmhaaGreatDoor
