/- Words: the reference's Match answers as the program's. -/
import Derived.Test.YtafnnnbefabofaaDoorWdH
import Derived.Test.YtafnnnbefabofaaDoorWdAr
set_option linter.unusedVariables false
set_option linter.unusedSimpArgs false
namespace Go.Proofs.YtafnnnbefabofaaDoor
open Go.RowKit Go.Sort

set_option maxHeartbeats 4000000 in
set_option maxRecDepth 100000 in
theorem matchr_any (s : ByteArray) (v : Value) (l : List ByteArray) (w : World) (hv : StS w v l) (hs : s.size ≤ maxLen) (hz : ∀ x ∈ l, x.size ≤ maxLen) (hm : l.length ≤ maxLen) :
    Calls Tryd.prog 173 #[.string s, v] w fun e w' => e = .returned (.tuple #[.int .i64 (Wd.mat s.data.toList l).1, .int .i64 (Wd.mat s.data.toList l).2]) ∧ ∃ k, w' = w.drewN k := by
  unfold maxLen at hm
  have HS := Lib.hid hs; clear hs
  by_cases h0 : s.size = 0
  · rw [show Wd.mat s.data.toList l = (0, 3) by unfold Wd.mat; rw [if_pos (by rw [← List.length_eq_zero_iff, blen]; exact h0)]]
    obtain rfl := s_nil h0
    obtain ⟨A, c, rfl, -⟩ := hv
    go_enter Tryd.func173, Tryd.ntmps173
    go_wp2
    go_ret2
    exact ⟨rfl, 0, rfl⟩
  · obtain ⟨t1, t2⟩ := wdne (ds := s) (by omega)
    have hne : s.data.toList ≠ [] := fun e => h0 (by rw [← blen, e]; rfl)
    obtain ⟨ans, hans⟩ : ∃ ans, ans = Wd.mat s.data.toList l := ⟨_, rfl⟩
    rw [← hans]
    have HA := Lib.hid (show Wd.ref1 s.data.toList l (l.drop 0) 0 = ans by rw [hans, Wd.mat_ref hne]; rfl)
    have HV := Lib.hid hv
    obtain ⟨A, c, rfl, -⟩ := hv
    generalize hn : l.length = n at *
    have HN := Lib.hid hn
    have HZ := Lib.hid hz
    clear hn hz hans h0 hne
    go_enter Tryd.func173, Tryd.ntmps173
    go_wp2_with fail
    go_loopw [15] (fun i wr => ∃ (k j : Nat), k ≤ n ∧ i = .int .i64 k ∧ Wd.ref1 s.data.toList l (l.drop k) k = ans ∧ wr = w.drewN j) (fun i _ => n - (intOf i).toNat)
    case atStart => exact ⟨0, 0, Nat.zero_le _, rfl, HA.out, rfl⟩
    case round =>
      obtain ⟨k, j, hk, rfl, hr, rfl⟩ := hrel
      have HR := Lib.hid hr; clear hr
      by_cases hlt : k < n
      · obtain ⟨a, rfl, g1⟩ := HV.out.get k (by rw [HN.out]; exact hlt)
        have CS := Lib.hid (fun W => wsamer_any (l[k]'(by rw [HN.out]; exact hlt)) s W (HZ.out _ (List.getElem_mem _)) HS.out)
        have ST := Lib.hid (Wd.ref1_step (s := s.data.toList) (all := l) (k := k) (by rw [HN.out]; exact hlt))
        generalize hx : (l[k]'(by rw [HN.out]; exact hlt)) = x at *
        cases c1 : Wd.same x.data.toList s.data.toList
        · have C1 := Lib.hid c1
          have HE := Lib.hid (show Wd.ref1 s.data.toList l (l.drop (k + 1)) (k + 1) = ans by rw [← HR.out, ST.out, c1]; simp)
          clear c1
          go_wp2_with fail
          refine (CS.out _).mono ?_; rintro e w1 ⟨rfl, j1, rfl⟩
          rw [C1.out]
          go_wp2_with fail
          go_roundw
          case rel => exact ⟨k + 1, _, by omega, by go_num, HE.out, by first | rfl | simp only [World.drewN_drewN]⟩
          case measure => simp [intOf]; omega
        · have C1 := Lib.hid c1
          have HE := Lib.hid (show ans = ((k : Int), 0) by rw [← HR.out, ST.out, c1]; simp)
          clear c1
          go_wp2_with fail
          refine (CS.out _).mono ?_; rintro e w1 ⟨rfl, j1, rfl⟩
          rw [C1.out]
          go_wp2_with fail
          go_ret2
          exact ⟨by rw [HE.out]; rfl, _, by first | rfl | simp only [World.drewN_drewN]⟩
      · have H2 := Lib.hid (show Wd.ref2 s.data.toList l (l.drop 0) 0 (-1) = ans by have e := HR.out; rw [List.drop_of_length_le (show l.length ≤ k by rw [HN.out]; omega)] at e; exact e)
        clear HR HA
        go_wp2_with fail
        go_loopw [8, 27] (fun fv i wr => ∃ (k j : Nat) (f : Int), k ≤ n ∧ i = .int .i64 k ∧ fv = .int .i64 f ∧ -1 ≤ f ∧ f < n ∧ Wd.ref2 s.data.toList l (l.drop k) k f = ans ∧ wr = w.drewN j) (fun _ i _ => n - (intOf i).toNat)
        case atStart => exact ⟨0, _, -1, Nat.zero_le _, rfl, rfl, by omega, by omega, H2.out, rfl⟩
        case round =>
          obtain ⟨k, j, f, hk, rfl, rfl, f0, f1, hr, rfl⟩ := hrel
          have HR := Lib.hid hr; clear hr
          by_cases hlt : k < n
          · obtain ⟨a, rfl, g1⟩ := HV.out.get k (by rw [HN.out]; exact hlt)
            have CB := Lib.hid (fun W => beginsr_any (l[k]'(by rw [HN.out]; exact hlt)) s W (HZ.out _ (List.getElem_mem _)) HS.out)
            have ST := Lib.hid (Wd.ref2_step (s := s.data.toList) (all := l) (k := k) (f := f) (by rw [HN.out]; exact hlt))
            generalize hx : (l[k]'(by rw [HN.out]; exact hlt)) = x at *
            cases c2 : Wd.beg x.data.toList s.data.toList
            · have C2 := Lib.hid c2
              have HE := Lib.hid (show Wd.ref2 s.data.toList l (l.drop (k + 1)) (k + 1) f = ans by rw [← HR.out, ST.out, c2]; simp)
              clear c2
              go_wp2_with fail
              refine (CB.out _).mono ?_; rintro e w2 ⟨rfl, j2, rfl⟩
              rw [C2.out]
              go_wp2_with fail
              go_roundw
              case rel => exact ⟨k + 1, _, f, by omega, by go_num, rfl, by omega, by omega, HE.out, by first | rfl | simp only [World.drewN_drewN]⟩
              case measure => simp [intOf]; omega
            · have C2 := Lib.hid c2
              by_cases c3 : f < 0
              · have HE := Lib.hid (show Wd.ref2 s.data.toList l (l.drop (k + 1)) (k + 1) (k : Int) = ans by rw [← HR.out, ST.out, c2]; simp [c3])
                clear c2
                go_wp2_with fail
                refine (CB.out _).mono ?_; rintro e w2 ⟨rfl, j2, rfl⟩
                rw [C2.out]
                go_wp2_with fail
                go_roundw
                case rel => exact ⟨k + 1, _, (k : Int), by omega, by go_num, rfl, by omega, by omega, HE.out, by first | rfl | simp only [World.drewN_drewN]⟩
                case measure => simp [intOf]; omega
              · have f2 : 0 ≤ f := by omega
                have hfl : f.toNat < l.length := by rw [HN.out]; omega
                obtain ⟨a', ha', g2⟩ := HV.out.get f.toNat hfl
                obtain rfl : a = a' := by injection ha'
                have CY := Lib.hid (fun W => wsamer_any (l[f.toNat]'hfl) x W (HZ.out _ (List.getElem_mem _)) (by rw [← hx]; exact HZ.out _ (List.getElem_mem _)))
                have GD := Lib.hid (show l.getD f.toNat ByteArray.empty = l[f.toNat]'hfl by simp [List.getD, List.getElem?_eq_getElem hfl])
                generalize hy : l[f.toNat]'hfl = y at *
                cases c4 : Wd.same y.data.toList x.data.toList
                · have C4 := Lib.hid c4
                  have HE := Lib.hid (show ans = (0, 3) by rw [← HR.out, ST.out, c2, GD.out, c4]; simp [c3])
                  clear c2 c4
                  go_wp2_with fail
                  refine (CB.out _).mono ?_; rintro e w2 ⟨rfl, j2, rfl⟩
                  rw [C2.out]
                  go_wp2_with fail
                  refine (CY.out _).mono ?_; rintro e w3 ⟨rfl, j3, rfl⟩
                  rw [C4.out]
                  go_wp2_with fail
                  go_ret2
                  exact ⟨by rw [HE.out]; rfl, _, by first | rfl | simp only [World.drewN_drewN]⟩
                · have C4 := Lib.hid c4
                  have HE := Lib.hid (show Wd.ref2 s.data.toList l (l.drop (k + 1)) (k + 1) f = ans by rw [← HR.out, ST.out, c2, GD.out, c4]; simp [c3])
                  clear c2 c4
                  go_wp2_with fail
                  refine (CB.out _).mono ?_; rintro e w2 ⟨rfl, j2, rfl⟩
                  rw [C2.out]
                  go_wp2_with fail
                  refine (CY.out _).mono ?_; rintro e w3 ⟨rfl, j3, rfl⟩
                  rw [C4.out]
                  go_wp2_with fail
                  go_roundw
                  case rel => exact ⟨k + 1, _, f, by omega, by go_num, rfl, by omega, by omega, HE.out, by first | rfl | simp only [World.drewN_drewN]⟩
                  case measure => simp [intOf]; omega
          · have HE := Lib.hid (show ans = if f < 0 then (0, 3) else (f, 0) by rw [← HR.out, List.drop_of_length_le (by rw [HN.out]; omega)]; rfl)
            by_cases c3 : f < 0
            · have HE2 := Lib.hid (show ans = (0, 3) by rw [HE.out]; simp [c3])
              clear HE
              go_wp2_with fail
              go_ret2
              exact ⟨by rw [HE2.out]; rfl, _, rfl⟩
            · have HE2 := Lib.hid (show ans = (f, 0) by rw [HE.out]; simp [c3])
              clear HE
              go_wp2_with fail
              go_ret2
              exact ⟨by rw [HE2.out]; rfl, _, rfl⟩
end Go.Proofs.YtafnnnbefabofaaDoor
