/- The walk of LinesBack: whatever source and lines, the law answers true; nothing old turns. -/
import Derived.Test.YtfcabofhlgmkjaaDoorLnT
import Derived.Test.YtfcabofhlgmkjaaDoorLnP
set_option linter.unusedVariables false
set_option linter.unusedSimpArgs false
namespace Go.Proofs.YtfcabofhlgmkjaaDoor
open Go.RowKit Go.Sort

namespace Ln
theorem fine_next (l : List ByteArray) (k : Nat) (h : k < l.length) : fineB (l.take (k + 1)) = (fineB (l.take k) && noB l[k].data.toList) := by
  unfold fineB
  rw [List.take_succ_eq_append_getElem h, List.all_append]
  simp
theorem no_next (x : ByteArray) (j : Nat) (h : j < x.size) : noB (x.data.toList.take (j + 1)) = (noB (x.data.toList.take j) && !(decide (x[j] = 10))) := by
  unfold noB
  have hl : j < x.data.toList.length := by rw [ab_len]; exact h
  rw [List.take_succ_eq_append_getElem hl, List.all_append]
  simp
  rfl
end Ln
set_option maxHeartbeats 16000000 in
set_option maxRecDepth 100000 in
theorem lnback_in (s : ByteArray) (v : Value) (l : List ByteArray) (w : World) (m : Int) (hm : w.cell? ⟨1, 0, none⟩ = some (.int .i64 m)) (h1 : s.size ≤ 20000) (S : StS w v l) (hz : ∀ y ∈ l, y.size ≤ maxLen) (h3 : l.length ≤ 100) :
    Calls Tryd.prog 6 #[.string s, v] w fun e w' => e = .returned (.bool true) ∧ Below w.heap.size w w' := by
  have T := S
  obtain ⟨A, c, rfl, -⟩ := T
  have M0 := Lib.hid hm; clear hm
  obtain ⟨N, hN⟩ : ∃ N, N = l.length := ⟨_, rfl⟩
  have HN := Lib.hid hN
  have HS : Hid (StS w (.slice A N c) l) := by rw [hN]; exact S
  rw [← hN] at h3 ⊢
  have HZ := Lib.hid hz
  clear hN S hz
  have g1 : ¬ 20000 < (s.size : Int) := by omega
  have g3 : ¬ 100 < (N : Int) := by omega
  have LV := Lib.hid (fun W (h : W.cell? ⟨1, 0, none⟩ = some (.int .i64 m)) => lives13 W m h)
  have OP := Lib.hid (fun W (h : W.cell? ⟨1, 0, none⟩ = some (.int .i64 m)) => lof_any s W m (by omega) h)
  obtain ⟨fa, fb, FP, HAB⟩ : ∃ a b : Int, (Hid (∀ W, W.cell? ⟨1, 0, none⟩ = some (.int .i64 m) → Calls Tryd.prog 43 #[.string s] W fun e w' => e = .returned (.agg #[.int .i64 a, .int .i64 b]) ∧ Below W.heap.size W w')) ∧
      Hid ((a = 0 ∧ b = 0 ∧ ∀ x ∈ Ln.cut [] s.data.toList, Ln.chk x = 0) ∨ (∃ i : Nat, i < (Ln.cut [] s.data.toList).length ∧ a = (i : Int) + 1 ∧ b = Ln.chk ((Ln.cut [] s.data.toList).getD i []) ∧ b ≠ 0 ∧ ∀ j, j < i → Ln.chk ((Ln.cut [] s.data.toList).getD j []) = 0)) := by
    refine ⟨(Ln.fsrc s.data.toList).1, (Ln.fsrc s.data.toList).2, fun W hW => first_anyx s W (by omega) (fun W' hb => lof_any s W' m (by omega) (cell_keep hW hb)), ?_⟩
    have e : Ln.fsrc s.data.toList = Ln.fst (Ln.cut [] s.data.toList) 0 := by unfold Ln.fsrc; rw [ab_len, if_neg (by omega)]
    rw [e]
    rcases Ln.fst_cases (Ln.cut [] s.data.toList) 0 with ⟨h, h'⟩ | ⟨i, hi, he, hne, hj⟩
    · rw [h]; exact .inl ⟨rfl, rfl, h'⟩
    · rw [he]; exact .inr ⟨i, hi, by simp, rfl, hne, hj⟩
  have HFL := Lib.hid (Ln.fl_cut s.data.toList [])
  have CL := Lib.hid (Ln.cut_len [] s.data.toList)
  have CZ := Lib.hid (Ln.cut_size [] s.data.toList)
  have hsl := Lib.hid (ab_len s)
  go_enter Tryd.func6, Tryd.ntmps6
  go_wp2_with fail
  refine (LV.out _ M0.out).mono ?_; rintro e w0 ⟨rfl, b0⟩
  have B0 := Lib.hid b0
  clear b0 LV
  go_wp2_with fail
  go_loopw [5, 27] (fun f i wr => ∃ k : Nat, k ≤ N ∧ i = .int .i64 k ∧ f = .bool (Ln.fineB (l.take k)) ∧ Hid (∀ y ∈ l.take k, y.size ≤ 1000) ∧ wr = w0) (fun _ i _ => N - (intOf i).toNat)
  case atStart => exact ⟨0, Nat.zero_le _, rfl, rfl, (by intro y hy; simp at hy), rfl⟩
  case round =>
    obtain ⟨k, hk, rfl, rfl, hall, hw⟩ := hrel
    obtain rfl : w0 = wr := hw.symm
    by_cases hlt : k < N
    · have hkl : k < l.length := by have := HN.out; omega
      obtain ⟨a, rfl, g⟩ := (HS.out.on B0.out).get k hkl
      have hyz := HZ.out l[k] (List.getElem_mem hkl)
      have hnx := Lib.hid (show l[k].size ≤ 1000 → ∀ y ∈ l.take (k + 1), y.size ≤ 1000 from fun h y hy => by
        rw [List.take_succ_eq_append_getElem hkl] at hy
        rcases List.mem_append.1 hy with hy | hy
        · exact hall.out y hy
        · rw [List.mem_singleton.1 hy]; exact h)
      have hfn := Lib.hid (Ln.fine_next l k hkl)
      generalize l[k] = y at g hyz hnx hfn
      generalize Ln.fineB (l.take k) = F at hfn ⊢
      unfold maxLen at hyz
      by_cases hy : 1000 < (y.size : Int)
      · clear hnx
        go_wp2_with fail
        go_ret
        exact ⟨rfl, B0.out⟩
      · have hn2 := Lib.hid (hnx.out (by omega))
        clear hnx
        go_wp2_with fail
        go_loopw [5, 8] (fun f i wr => ∃ j : Nat, j ≤ y.size ∧ i = .int .i64 j ∧ f = .bool (F && Ln.noB (y.data.toList.take j)) ∧ wr = w0) (fun _ i _ => y.size - (intOf i).toNat)
        case atStart => exact ⟨0, Nat.zero_le _, rfl, by rw [show Ln.noB (y.data.toList.take 0) = true from rfl, Bool.and_true], rfl⟩
        case round =>
          obtain ⟨j, hj, rfl, rfl, hw⟩ := hrel
          obtain rfl : w0 = wr := hw.symm
          by_cases hjl : j < y.size
          · have IX := fun W => rn_ix y j hjl W
            have hjn := Ln.no_next y j hjl
            obtain ⟨b, hb⟩ : ∃ b, b = (F && Ln.noB (y.data.toList.take j)) := ⟨_, rfl⟩
            rw [← hb]
            have hbn : (F && Ln.noB (y.data.toList.take (j + 1))) = (b && !(decide (y[j] = 10))) := by rw [hjn, hb, Bool.and_assoc]
            have HBN := Lib.hid hbn
            clear hb hjn hbn
            by_cases h10 : y[j] = 10
            · rw [h10] at IX
              have IX : ∀ W, Sem.run Tryd.prog (Instr.index 9 (.string y) (.int .i64 (j : Int))) W = .ok (.int .u8 10) W := IX
              have HB2 := Lib.hid (show (F && Ln.noB (y.data.toList.take (j + 1))) = false by rw [HBN.out, decide_eq_true h10]; simp)
              clear HBN h10
              cases b
              · go_wp2_with fail
                go_roundw
                case rel => exact ⟨j + 1, by omega, by go_num, by rw [HB2.out], by first | rfl | trivial⟩
                case measure => simp [intOf]; omega
              · go_wp2_with fail
                go_roundw
                case rel => exact ⟨j + 1, by omega, by go_num, by rw [HB2.out], by first | rfl | trivial⟩
                case measure => simp [intOf]; omega
            · have g2 : ((y[j].toNat : Int) == 10) = false := by
                rw [beq_eq_false_iff_ne]
                intro h; exact h10 (UInt8.toNat_inj.1 (by rw [show (10 : UInt8).toNat = 10 from rfl]; omega))
              have g3' : ((y[j].toNat : Int) != 10) = true := by unfold bne; rw [g2]; rfl
              have HB2 := Lib.hid (show (F && Ln.noB (y.data.toList.take (j + 1))) = b by rw [HBN.out, decide_eq_false h10]; simp)
              generalize (y[j].toNat : Int) = c at IX g2 g3'
              clear HBN h10
              cases b
              · go_wp2_with fail
                go_roundw
                case rel => exact ⟨j + 1, by omega, by go_num, by rw [HB2.out], by first | rfl | trivial⟩
                case measure => simp [intOf]; omega
              · go_wp2_with fail
                go_roundw
                case rel => exact ⟨j + 1, by omega, by go_num, by rw [HB2.out], by first | rfl | trivial⟩
                case measure => simp [intOf]; omega
          · have HF := Lib.hid (show (F && Ln.noB (y.data.toList.take j)) = Ln.fineB (l.take (k + 1)) by rw [hfn.out, List.take_of_length_le (by rw [ab_len]; omega)])
            rw [HF.out]
            clear hfn
            go_wp2_with fail
            go_roundw
            case rel => exact ⟨k + 1, by omega, by go_num, rfl, hn2, by first | rfl | trivial⟩
            case measure => simp [intOf]; omega
    · have htk : l.take k = l := List.take_of_length_le (by have := HN.out; omega)
      rw [htk]
      have hjb : Hid ((Ln.jn l).length ≤ 900000) := by
        have := Ln.jn_bd l (fun y hy => hall.out y (by rw [htk]; exact hy))
        have h4 := HN.out
        exact Lib.hid (by omega)
      clear htk hall
      have JP := Lib.hid (fun W (T : StS W (.slice A N c) l) => ljoin_any _ l W T (by have := HN.out; omega) hjb.out)
      obtain ⟨jj, hjj, hjz⟩ : ∃ jj : ByteArray, jj = ⟨(Ln.jn l).toArray⟩ ∧ jj.size = (Ln.jn l).length := ⟨_, rfl, by show (Ln.jn l).toArray.size = _; rw [List.size_toArray]⟩
      have OJ := Lib.hid (fun W (h : W.cell? ⟨1, 0, none⟩ = some (.int .i64 m)) => lof_any jj W m (by have := hjb.out; omega) h)
      have hcj := Lib.hid (show Ln.fineB l = true → Ln.cut [] jj.data.toList = l.map (·.data.toList) from fun h => by rw [hjj]; exact Ln.cut_jn l h)
      rw [← hjj] at JP
      clear hjj hjz
      cases hF : Ln.fineB l
      · clear hcj JP OJ
        go_wp2_with fail
        refine (OP.out _ (cell_keep M0.out B0.out)).mono ?_; rintro e w5 ⟨v5, L5, S5, hl5, rfl, b5⟩
        have B5 := Lib.hid (below_step B0.out b5)
        clear b5
        have T5 := S5
        obtain ⟨A5, c5, rfl, -⟩ := T5
        have hlen5 : L5.length ≤ 20001 := by
          have h5 := CL.out
          rw [← hl5, List.length_map, hsl.out] at h5
          omega
        obtain ⟨r, hrv, hrs⟩ : ∃ r : ByteArray, r = ⟨(Ln.jn L5).toArray⟩ ∧ (r = s ∨ r = s ++ ⟨#[10]⟩) := by
          refine ⟨_, rfl, ?_⟩
          rw [Ln.jn_fl, hl5]
          rcases HFL.out with h | h
          · left; rw [h]; rfl
          · right; rw [h]; apply ByteArray.ext; apply Array.toList_inj.1; rw [ByteArray.data_append]; simp
        have hjl5 : (Ln.jn L5).length ≤ 900000 := by
          rw [Ln.jn_fl, hl5]
          rcases HFL.out with h | h
          · rw [h]; simp; have := hsl.out; omega
          · rw [h]; simp; have := hsl.out; omega
        have J5 := Lib.hid (fun W (T : StS W (.slice A5 L5.length c5) L5) => ljoin_any _ L5 W T (by omega) hjl5)
        rw [← hrv] at J5
        have HX5 := Lib.hid (show ∀ x ∈ L5, x.size ≤ 20000 from fun x hx => by
          have := CZ.out x.data.toList (by rw [← hl5]; exact List.mem_map_of_mem hx)
          rw [ab_len, hsl.out] at this; simp at this; omega)
        rw [← hl5] at HAB
        obtain ⟨N5, hN5⟩ : ∃ n, n = L5.length := ⟨_, rfl⟩
        have HN5 := Lib.hid hN5
        have HS5 := Lib.hid S5
        rw [← hN5] at hlen5 J5 HS5 ⊢
        clear hrv hjl5 hl5 S5 hN5
        go_wp2_with fail
        refine (J5.out _ HS5.out).mono ?_; rintro e w6 ⟨rfl, b6⟩
        have HS6 := Lib.hid (HS5.out.on b6)
        have B6 := Lib.hid (below_step B5.out b6)
        clear b6 B5 HS5 J5
        have e1 : (s ++ ⟨#[10]⟩ : ByteArray).size = s.size + 1 := by rw [ByteArray.size_append]; rfl
        have ne1 : ¬ (s ++ ⟨#[10]⟩ : ByteArray).toList = s.toList := fun h => by rw [ByteArray.toList_eq, ByteArray.toList_eq] at h; have := congrArg List.length h; rw [ab_len, ab_len] at this; omega
        rcases hrs with rfl | rfl
        all_goals
          go_wp2_with fail
          refine (FP.out _ (cell_keep M0.out B6.out)).mono ?_; rintro e w7 ⟨rfl, b7⟩
          have HS7 := Lib.hid (HS6.out.on b7)
          have B7 := Lib.hid (below_step B6.out b7)
          clear b7 B6 HS6 e1
          have chk3 : ∀ (k : Nat) (x : ByteArray), L5[k]? = some x → ((L5.map (·.data.toList)).getD k []) = x.data.toList := fun k x h => by rw [List.getD_eq_getElem?_getD, List.getElem?_map, h]; rfl
          rcases HAB.out with ⟨rfl, rfl, hq⟩ | ⟨i, hi, rfl, hfb, hb0, hj⟩
          · have HQ := Lib.hid hq
            clear hq chk3
            go_wp2_with fail
            go_loopw [93] (fun j wr => ∃ k : Nat, k ≤ N5 ∧ j = .int .i64 k ∧ Hid (Bk2 wr w7.heap.size (.int .i64 0) (.int .i64 0)) ∧ Hid (Below w7.heap.size w7 wr)) (fun j _ => N5 - (intOf j).toNat)
            case atStart => exact ⟨0, Nat.zero_le _, rfl, Bk2.of (Below.refl _ _) (by simp) (by intro j; simp [go_sem]) (by simp [go_sem]) (by simp [go_sem]), (Below.refl _ _).alloc (Nat.le_refl _) _⟩
            case round =>
              obtain ⟨k, hk, rfl, hbk, hbw⟩ := hrel
              have Z := hbk.out
              have z_b := Z.hb; have z_f := Z.fz; have z_0 := Z.k0; have z_1 := Z.k1
              by_cases hlt : k < N5
              · have hkl : k < L5.length := by have := HN5.out; omega
                obtain ⟨a, rfl, g⟩ := (HS7.out.on hbw.out).get k hkl
                have hyz := HX5.out L5[k] (List.getElem_mem hkl)
                have hc0 := HQ.out L5[k].data.toList (List.mem_map_of_mem (List.getElem_mem hkl))
                generalize L5[k] = y at g hyz hc0
                have CK := Lib.hid (fun W => lcheck_any y W (by unfold maxLen; omega))
                rw [hc0] at CK
                clear hc0
                go_wp2_with fail
                refine (CK.out _).mono ?_; rintro e w8 ⟨rfl, b8⟩
                have Z8 := Z.keep b8
                have y_b := Z8.hb; have y_f := Z8.fz; have y_0 := Z8.k0; have y_1 := Z8.k1
                have B8 := Lib.hid (below_step hbw.out b8)
                clear b8 z_0 z_1 z_f
                go_wp2_with fail
                go_roundw
                case rel => exact ⟨k + 1, by omega, by go_num, Z8, B8⟩
                case measure => simp [intOf]; omega
              · go_wp2_with fail
                go_ret
                exact ⟨rfl, below_step B7.out hbw.out⟩
          · rw [List.length_map] at hi
            have hi5 : (i : Int) + 1 ≤ (N5 : Int) := by have := HN5.out; omega
            have HJ := Lib.hid hj
            have HB := Lib.hid hfb
            have CH := Lib.hid chk3
            have gb : (fb == 0) = false := by rw [beq_eq_false_iff_ne]; exact hb0
            have gb' : (fb != 0) = true := by unfold bne; rw [gb]; rfl
            have ga : ((i : Int) + 1 == 0) = false := by rw [beq_eq_false_iff_ne]; omega
            clear hj hfb chk3 hi HAB
            go_wp2_with fail
            go_loopw [93] (fun j wr => ∃ k : Nat, k ≤ N5 ∧ j = .int .i64 k ∧ Hid (Bk2 wr w7.heap.size (.int .i64 ((i : Int) + 1)) (.int .i64 fb)) ∧ Hid (Below w7.heap.size w7 wr)) (fun j _ => N5 - (intOf j).toNat)
            case atStart => exact ⟨0, Nat.zero_le _, rfl, Bk2.of (Below.refl _ _) (by simp) (by intro j; simp [go_sem]) (by simp [go_sem]) (by simp [go_sem]), (Below.refl _ _).alloc (Nat.le_refl _) _⟩
            case round =>
              obtain ⟨k, hk, rfl, hbk, hbw⟩ := hrel
              have Z := hbk.out
              have z_b := Z.hb; have z_f := Z.fz; have z_0 := Z.k0; have z_1 := Z.k1
              by_cases hlt : k < N5
              · have hkl : k < L5.length := by have := HN5.out; omega
                obtain ⟨a, rfl, g⟩ := (HS7.out.on hbw.out).get k hkl
                have hyz := HX5.out L5[k] (List.getElem_mem hkl)
                have hgd := CH.out k L5[k] (List.getElem?_eq_getElem hkl)
                generalize L5[k] = y at g hyz hgd
                have CK := Lib.hid (fun W => lcheck_any y W (by unfold maxLen; omega))
                have hjk := Lib.hid (show k < i → Ln.chk y.data.toList = 0 from fun h => by rw [← hgd]; exact HJ.out k h)
                have hik := Lib.hid (show k = i → Ln.chk y.data.toList = fb from fun h => by rw [HB.out, ← h, hgd])
                clear hgd
                generalize Ln.chk y.data.toList = q at CK hjk hik
                rcases Nat.lt_trichotomy k i with hki | hki | hki
                · have hq0 := hjk.out hki
                  subst hq0
                  have g5 : (k : Int) < (i : Int) := by omega
                  have g6 : ((k : Int) == (i : Int)) = false := by rw [beq_eq_false_iff_ne]; omega
                  have g7 : ((k : Int) == (i : Int) + 1 - 1) = false := by rw [beq_eq_false_iff_ne]; omega
                  clear hjk hik hki
                  go_wp2_with fail
                  refine (CK.out _).mono ?_; rintro e w8 ⟨rfl, b8⟩
                  have Z8 := Z.keep b8
                  have y_b := Z8.hb; have y_f := Z8.fz; have y_0 := Z8.k0; have y_1 := Z8.k1
                  have B8 := Lib.hid (below_step hbw.out b8)
                  clear b8 z_0 z_1 z_f
                  go_wp2_with fail
                  go_roundw
                  case rel => exact ⟨k + 1, by omega, by go_num, Z8, B8⟩
                  case measure => simp [intOf]; omega
                · have hq0 := hik.out hki
                  subst hq0
                  subst hki
                  clear hjk hik
                  go_wp2_with fail
                  refine (CK.out _).mono ?_; rintro e w8 ⟨rfl, b8⟩
                  have Z8 := Z.keep b8
                  have y_b := Z8.hb; have y_f := Z8.fz; have y_0 := Z8.k0; have y_1 := Z8.k1
                  have B8 := Lib.hid (below_step hbw.out b8)
                  clear b8 z_0 z_1 z_f
                  go_wp2_with fail
                  go_roundw
                  case rel => exact ⟨k + 1, by omega, by go_num, Z8, B8⟩
                  case measure => simp [intOf]; omega
                · have g5 : ¬ (k : Int) < (i : Int) := by omega
                  have g6 : ((k : Int) == (i : Int)) = false := by rw [beq_eq_false_iff_ne]; omega
                  clear hjk hik hki
                  go_wp2_with fail
                  refine (CK.out _).mono ?_; rintro e w8 ⟨rfl, b8⟩
                  have Z8 := Z.keep b8
                  have y_b := Z8.hb; have y_f := Z8.fz; have y_0 := Z8.k0; have y_1 := Z8.k1
                  have B8 := Lib.hid (below_step hbw.out b8)
                  clear b8 z_0 z_1 z_f
                  go_wp2_with fail
                  go_roundw
                  case rel => exact ⟨k + 1, by omega, by go_num, Z8, B8⟩
                  case measure => simp [intOf]; omega
              · go_wp2_with fail
                go_ret
                exact ⟨rfl, below_step B7.out hbw.out⟩
      · have hcj := Lib.hid (hcj.out hF)
        go_wp2_with fail
        refine (JP.out _ (HS.out.on B0.out)).mono ?_; rintro e w1 ⟨rfl, b1⟩
        have B1 := Lib.hid (below_step B0.out b1)
        go_wp2_with fail
        refine (OJ.out _ (cell_keep M0.out B1.out)).mono ?_; rintro e w2 ⟨v2, L2, S2, hl2, rfl, b2⟩
        have B2 := Lib.hid (below_step B1.out b2)
        obtain rfl : L2 = l := Ln.bytes_inj (hl2.trans hcj.out)
        have S2' := Lib.hid S2
        clear S2 hl2 b2 b1
        go_wp2_with fail
        refine (same13_yes v2 _ L2 _ (by have := HN.out; omega) S2'.out (HS.out.on B2.out)).mono ?_; rintro e w3 ⟨rfl, b3⟩
        have B3 := Lib.hid (below_step B2.out b3)
        clear b3 B1 B2 B0 S2' hcj
        go_wp2_with fail
        refine (OP.out _ (cell_keep M0.out B3.out)).mono ?_; rintro e w5 ⟨v5, L5, S5, hl5, rfl, b5⟩
        have B5 := Lib.hid (below_step B3.out b5)
        clear b5
        have T5 := S5
        obtain ⟨A5, c5, rfl, -⟩ := T5
        have hlen5 : L5.length ≤ 20001 := by
          have h5 := CL.out
          rw [← hl5, List.length_map, hsl.out] at h5
          omega
        obtain ⟨r, hrv, hrs⟩ : ∃ r : ByteArray, r = ⟨(Ln.jn L5).toArray⟩ ∧ (r = s ∨ r = s ++ ⟨#[10]⟩) := by
          refine ⟨_, rfl, ?_⟩
          rw [Ln.jn_fl, hl5]
          rcases HFL.out with h | h
          · left; rw [h]; rfl
          · right; rw [h]; apply ByteArray.ext; apply Array.toList_inj.1; rw [ByteArray.data_append]; simp
        have hjl5 : (Ln.jn L5).length ≤ 900000 := by
          rw [Ln.jn_fl, hl5]
          rcases HFL.out with h | h
          · rw [h]; simp; have := hsl.out; omega
          · rw [h]; simp; have := hsl.out; omega
        have J5 := Lib.hid (fun W (T : StS W (.slice A5 L5.length c5) L5) => ljoin_any _ L5 W T (by omega) hjl5)
        rw [← hrv] at J5
        have HX5 := Lib.hid (show ∀ x ∈ L5, x.size ≤ 20000 from fun x hx => by
          have := CZ.out x.data.toList (by rw [← hl5]; exact List.mem_map_of_mem hx)
          rw [ab_len, hsl.out] at this; simp at this; omega)
        rw [← hl5] at HAB
        obtain ⟨N5, hN5⟩ : ∃ n, n = L5.length := ⟨_, rfl⟩
        have HN5 := Lib.hid hN5
        have HS5 := Lib.hid S5
        rw [← hN5] at hlen5 J5 HS5 ⊢
        clear hrv hjl5 hl5 S5 hN5
        go_wp2_with fail
        refine (J5.out _ HS5.out).mono ?_; rintro e w6 ⟨rfl, b6⟩
        have HS6 := Lib.hid (HS5.out.on b6)
        have B6 := Lib.hid (below_step B5.out b6)
        clear b6 B5 HS5 J5
        have e1 : (s ++ ⟨#[10]⟩ : ByteArray).size = s.size + 1 := by rw [ByteArray.size_append]; rfl
        have ne1 : ¬ (s ++ ⟨#[10]⟩ : ByteArray).toList = s.toList := fun h => by rw [ByteArray.toList_eq, ByteArray.toList_eq] at h; have := congrArg List.length h; rw [ab_len, ab_len] at this; omega
        rcases hrs with rfl | rfl
        all_goals
          go_wp2_with fail
          refine (FP.out _ (cell_keep M0.out B6.out)).mono ?_; rintro e w7 ⟨rfl, b7⟩
          have HS7 := Lib.hid (HS6.out.on b7)
          have B7 := Lib.hid (below_step B6.out b7)
          clear b7 B6 HS6 e1
          have chk3 : ∀ (k : Nat) (x : ByteArray), L5[k]? = some x → ((L5.map (·.data.toList)).getD k []) = x.data.toList := fun k x h => by rw [List.getD_eq_getElem?_getD, List.getElem?_map, h]; rfl
          rcases HAB.out with ⟨rfl, rfl, hq⟩ | ⟨i, hi, rfl, hfb, hb0, hj⟩
          · have HQ := Lib.hid hq
            clear hq chk3
            go_wp2_with fail
            go_loopw [93] (fun j wr => ∃ k : Nat, k ≤ N5 ∧ j = .int .i64 k ∧ Hid (Bk2 wr w7.heap.size (.int .i64 0) (.int .i64 0)) ∧ Hid (Below w7.heap.size w7 wr)) (fun j _ => N5 - (intOf j).toNat)
            case atStart => exact ⟨0, Nat.zero_le _, rfl, Bk2.of (Below.refl _ _) (by simp) (by intro j; simp [go_sem]) (by simp [go_sem]) (by simp [go_sem]), (Below.refl _ _).alloc (Nat.le_refl _) _⟩
            case round =>
              obtain ⟨k, hk, rfl, hbk, hbw⟩ := hrel
              have Z := hbk.out
              have z_b := Z.hb; have z_f := Z.fz; have z_0 := Z.k0; have z_1 := Z.k1
              by_cases hlt : k < N5
              · have hkl : k < L5.length := by have := HN5.out; omega
                obtain ⟨a, rfl, g⟩ := (HS7.out.on hbw.out).get k hkl
                have hyz := HX5.out L5[k] (List.getElem_mem hkl)
                have hc0 := HQ.out L5[k].data.toList (List.mem_map_of_mem (List.getElem_mem hkl))
                generalize L5[k] = y at g hyz hc0
                have CK := Lib.hid (fun W => lcheck_any y W (by unfold maxLen; omega))
                rw [hc0] at CK
                clear hc0
                go_wp2_with fail
                refine (CK.out _).mono ?_; rintro e w8 ⟨rfl, b8⟩
                have Z8 := Z.keep b8
                have y_b := Z8.hb; have y_f := Z8.fz; have y_0 := Z8.k0; have y_1 := Z8.k1
                have B8 := Lib.hid (below_step hbw.out b8)
                clear b8 z_0 z_1 z_f
                go_wp2_with fail
                go_roundw
                case rel => exact ⟨k + 1, by omega, by go_num, Z8, B8⟩
                case measure => simp [intOf]; omega
              · go_wp2_with fail
                go_ret
                exact ⟨rfl, below_step B7.out hbw.out⟩
          · rw [List.length_map] at hi
            have hi5 : (i : Int) + 1 ≤ (N5 : Int) := by have := HN5.out; omega
            have HJ := Lib.hid hj
            have HB := Lib.hid hfb
            have CH := Lib.hid chk3
            have gb : (fb == 0) = false := by rw [beq_eq_false_iff_ne]; exact hb0
            have gb' : (fb != 0) = true := by unfold bne; rw [gb]; rfl
            have ga : ((i : Int) + 1 == 0) = false := by rw [beq_eq_false_iff_ne]; omega
            clear hj hfb chk3 hi HAB
            go_wp2_with fail
            go_loopw [93] (fun j wr => ∃ k : Nat, k ≤ N5 ∧ j = .int .i64 k ∧ Hid (Bk2 wr w7.heap.size (.int .i64 ((i : Int) + 1)) (.int .i64 fb)) ∧ Hid (Below w7.heap.size w7 wr)) (fun j _ => N5 - (intOf j).toNat)
            case atStart => exact ⟨0, Nat.zero_le _, rfl, Bk2.of (Below.refl _ _) (by simp) (by intro j; simp [go_sem]) (by simp [go_sem]) (by simp [go_sem]), (Below.refl _ _).alloc (Nat.le_refl _) _⟩
            case round =>
              obtain ⟨k, hk, rfl, hbk, hbw⟩ := hrel
              have Z := hbk.out
              have z_b := Z.hb; have z_f := Z.fz; have z_0 := Z.k0; have z_1 := Z.k1
              by_cases hlt : k < N5
              · have hkl : k < L5.length := by have := HN5.out; omega
                obtain ⟨a, rfl, g⟩ := (HS7.out.on hbw.out).get k hkl
                have hyz := HX5.out L5[k] (List.getElem_mem hkl)
                have hgd := CH.out k L5[k] (List.getElem?_eq_getElem hkl)
                generalize L5[k] = y at g hyz hgd
                have CK := Lib.hid (fun W => lcheck_any y W (by unfold maxLen; omega))
                have hjk := Lib.hid (show k < i → Ln.chk y.data.toList = 0 from fun h => by rw [← hgd]; exact HJ.out k h)
                have hik := Lib.hid (show k = i → Ln.chk y.data.toList = fb from fun h => by rw [HB.out, ← h, hgd])
                clear hgd
                generalize Ln.chk y.data.toList = q at CK hjk hik
                rcases Nat.lt_trichotomy k i with hki | hki | hki
                · have hq0 := hjk.out hki
                  subst hq0
                  have g5 : (k : Int) < (i : Int) := by omega
                  have g6 : ((k : Int) == (i : Int)) = false := by rw [beq_eq_false_iff_ne]; omega
                  have g7 : ((k : Int) == (i : Int) + 1 - 1) = false := by rw [beq_eq_false_iff_ne]; omega
                  clear hjk hik hki
                  go_wp2_with fail
                  refine (CK.out _).mono ?_; rintro e w8 ⟨rfl, b8⟩
                  have Z8 := Z.keep b8
                  have y_b := Z8.hb; have y_f := Z8.fz; have y_0 := Z8.k0; have y_1 := Z8.k1
                  have B8 := Lib.hid (below_step hbw.out b8)
                  clear b8 z_0 z_1 z_f
                  go_wp2_with fail
                  go_roundw
                  case rel => exact ⟨k + 1, by omega, by go_num, Z8, B8⟩
                  case measure => simp [intOf]; omega
                · have hq0 := hik.out hki
                  subst hq0
                  subst hki
                  clear hjk hik
                  go_wp2_with fail
                  refine (CK.out _).mono ?_; rintro e w8 ⟨rfl, b8⟩
                  have Z8 := Z.keep b8
                  have y_b := Z8.hb; have y_f := Z8.fz; have y_0 := Z8.k0; have y_1 := Z8.k1
                  have B8 := Lib.hid (below_step hbw.out b8)
                  clear b8 z_0 z_1 z_f
                  go_wp2_with fail
                  go_roundw
                  case rel => exact ⟨k + 1, by omega, by go_num, Z8, B8⟩
                  case measure => simp [intOf]; omega
                · have g5 : ¬ (k : Int) < (i : Int) := by omega
                  have g6 : ((k : Int) == (i : Int)) = false := by rw [beq_eq_false_iff_ne]; omega
                  clear hjk hik hki
                  go_wp2_with fail
                  refine (CK.out _).mono ?_; rintro e w8 ⟨rfl, b8⟩
                  have Z8 := Z.keep b8
                  have y_b := Z8.hb; have y_f := Z8.fz; have y_0 := Z8.k0; have y_1 := Z8.k1
                  have B8 := Lib.hid (below_step hbw.out b8)
                  clear b8 z_0 z_1 z_f
                  go_wp2_with fail
                  go_roundw
                  case rel => exact ⟨k + 1, by omega, by go_num, Z8, B8⟩
                  case measure => simp [intOf]; omega
              · go_wp2_with fail
                go_ret
                exact ⟨rfl, below_step B7.out hbw.out⟩
end Go.Proofs.YtfcabofhlgmkjaaDoor

